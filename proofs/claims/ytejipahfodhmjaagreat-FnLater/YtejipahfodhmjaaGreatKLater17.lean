/-
  Texts put together: OvrA OvrH OvrJ OvrO OvrQ SeeI SeeS Asked Missing.
-/
import Derived.Test.YtejipahfodhmjaaGreatKLater16
import Derived.Test.YtejipahfodhmjaaGreatKLater8
import Derived.Test.YtejipahfodhmjaaGreatKLater7
import Derived.Shelf.SlMaps.Clone
import Derived.Lib.SlMapFilter
import Derived.RangeFuncGives
import Derived.Shelf.AbstractIn
import Derived.RangeFuncSeq
import Derived.Sort.MapsRangeIn
import Derived.OwnWalkIn
import Derived.TacticsInMore
import Derived.RegionIn
import Derived.LoopNIn
import Derived.LoopIn
import Derived.Maps.AppendAt
import Derived.Shelf.Abstract
import Derived.Test.YtejipahfodhmjaaGreatKLater6
import Derived.Shelf.SlIter.Collect
import Derived.Test.YtejipahfodhmjaaGreatKLater4
import Derived.Test.YtejipahfodhmjaaGreatKLater11
namespace Go.Proofs.YtejipahfodhmjaaGreat
open Go.RowKit Go.Maps
set_option linter.unusedVariables false
attribute [local go_sem ↓] Go.wp_at_zero Go.wp_at_succ

set_option maxRecDepth 100000 in
set_option maxHeartbeats 3200000 in
theorem specLayersFault_any (a : Option Addr) (c n : Nat) (ls : List (List En)) (w : World) (h : RdL w a ls) (hn : n = ls.length) (hl : ls.length ≤ 1048576) (hs : SmallL ls) (hg : ∀ es ∈ ls, layFault es = layFaultP es) :
    Calls Tryz.prog 62 #[.slice a n c] w fun r w' => r = .returned (.int .i64 (layersP ls)) ∧ Below w.heap.size w w' := by
  subst hn
  have HR := hide h
  have HS := hide hs
  have HG := hide hg
  clear h hs hg
  by_cases h4 : 4 < ls.length
  · have HZ := hide (show layersP ls = 2 by simp [layersP, h4])
    have h4' : (4 : Int) < (ls.length : Int) := by omega
    go_enter Tryz.func62, Tryz.ntmps62
    go_wp2_with fail
    go_wp2_with fail
    go_ret
    exact ⟨by rw [HZ.out]; rfl, Below.refl _ _⟩
  · have HZ := hide (show layersP ls = lsFrom (ls.drop 0) by simp [layersP, h4])
    have h4' : ¬ (4 : Int) < (ls.length : Int) := by omega
    clear h4
    generalize layersP ls = V at *
    go_enter Tryz.func62, Tryz.ntmps62
    go_wp2_with fail
    go_loopw [3] (fun i wr => ∃ k : Nat, k ≤ ls.length ∧ i = .int .i64 k ∧ Hid (V = lsFrom (ls.drop k)) ∧ Hid (Below w.heap.size w wr)) (fun i _ => ls.length - (intOf i).toNat)
    case atStart => exact ⟨0, Nat.zero_le _, rfl, HZ, hide (Below.refl _ _)⟩
    case round =>
      obtain ⟨k, hk, rfl, HV, HW⟩ := hrel
      by_cases hlt : k < ls.length
      · obtain ⟨b, off, es, x, cc, rfl, hb, he, c0, hr⟩ := (HR.out.below HW.out).at hlt
        obtain ⟨hel, hsm⟩ := HS.out es (List.mem_of_getElem? he)
        have HLF := hide (l4Fault_any x cc es.length es wr hr rfl (by omega) hsm)
        rw [HG.out es (List.mem_of_getElem? he)] at HLF
        have HX := hide he
        clear he hr hsm
        by_cases hf : layFaultP es = 0
        · have HN := hide (HV.out.trans (lsFrom_next HX.out hf))
          rw [hf] at HLF
          clear hf
          go_wp2_with fail
          refine HLF.out.mono ?_
          rintro r w1 ⟨rfl, hb1⟩
          have B1 := hide (below_next HW.out hb1)
          clear hb1 c0
          go_wp2_with fail
          go_roundw
          case rel => exact ⟨k + 1, by omega, by go_num, HN, B1⟩
          case measure => simp [intOf]; omega
        · have HN := hide (HV.out.trans (lsFrom_bad HX.out hf))
          generalize layFaultP es = F at *
          have hf2 : (F != 0) = true := by simp; exact hf
          clear hf
          go_wp2_with fail
          refine HLF.out.mono ?_
          rintro r w1 ⟨rfl, hb1⟩
          have B1 := hide (below_next HW.out hb1)
          clear hb1 c0
          go_wp2_with fail
          go_ret
          exact ⟨by rw [HN.out]; rfl, B1.out⟩
      · have HN := hide (show V = 0 by rw [HV.out, List.drop_eq_nil_of_le (by omega)]; rfl)
        go_wp2_with fail
        go_ret
        exact ⟨by rw [HN.out]; rfl, HW.out⟩
end Go.Proofs.YtejipahfodhmjaaGreat

namespace Go.Proofs.YtejipahfodhmjaaGreat
open Go.RowKit Go.Maps
set_option linter.unusedVariables false
attribute [local go_sem ↓] Go.wp_at_zero Go.wp_at_succ

theorem over_is_two {es : List En} {ups : List Bs} (h : overN es ups = 2) : ∃ u ∈ ups, rankE es u = 2 := by
  unfold overN at h
  split at h
  · rename_i h2
    obtain ⟨u, hu, hr⟩ := List.any_eq_true.1 h2
    exact ⟨u, hu, of_decide_eq_true hr⟩
  · split at h <;> omega
theorem rank_is_two {es : List En} {u : Bs} (h : rankE es u = 2) : ∃ d, findE es u = some d ∧ (d.kind = 3 ∨ d.kind = 1) := by
  unfold rankE at h
  cases hf : findE es u with
  | none => rw [hf] at h; simp at h
  | some d =>
    rw [hf] at h
    refine ⟨d, rfl, ?_⟩
    by_cases hk : d.kind = 3 ∨ d.kind = 1
    · exact hk
    · simp only [hk, if_false] at h
      split at h <;> omega
theorem over_there {es : List En} (h : Right es) {p : Bs} (hp : faultP p = 0) {e : En} (he : findE es p = some e) : overN es (above p) ≠ 2 := by
  intro h2
  obtain ⟨u, hu, hr⟩ := over_is_two h2
  obtain ⟨d, hd, hk⟩ := rank_is_two hr
  have hb : isBelow p u = true := by simpa [isBelow] using hu
  rw [isBelow_good hp] at hb
  obtain ⟨hpu, hbl⟩ := of_decide_eq_true hb
  obtain ⟨hem, rfl⟩ := find_mem he
  obtain ⟨d', hd', hpd, hk'⟩ := (right_fit.1 h).1.up hpu hem hbl
  have h3 := rise_find h.rise hd'
  rw [hpd, hd] at h3
  cases h3
  simp only [dirK, decide_eq_true_eq] at hk'
  omega
theorem up_over {es : List En} (h : Right es) (p : Bs) : ((above p).any fun u => (findE es u).any fun e => !decide (e.kind = 2)) = decide (overN es (above p) ≠ 0) := by
  rw [Bool.eq_iff_iff, decide_eq_true_iff, over_zero, List.any_eq_true]
  constructor
  · rintro ⟨u, hu, hr⟩
    have : hideAt es u = true := hr
    rw [rank_hide h] at this
    exact ⟨u, hu, of_decide_eq_true this⟩
  · rintro ⟨u, hu, hr⟩
    exact ⟨u, hu, by have : hideAt es u = true := by rw [rank_hide h]; exact decide_eq_true hr
                     exact this⟩
theorem seeL_at {ls : List (List En)} {m : Nat} {es : List En} (h : ls[m]? = some es) (q : Bs) : seeL ls m q = findE es q := by simp [seeL, h]
theorem seen_up {ls : List (List En)} {m : Nat} {es : List En} (h : ls[m]? = some es) (hR : Right es) {p : Bs} (hn : findE es p = none) (ho : overN es (above p) ≠ 0) : seenG (seeL ls) p (m + 1) = none := by
  refine seen_hid (by rw [seeL_at h]; exact hn) ?_
  have := up_over hR p
  rw [decide_eq_true ho] at this
  rw [← this]
  simp only [seeL_at h]
theorem seen_on {ls : List (List En)} {m : Nat} {es : List En} (h : ls[m]? = some es) (hR : Right es) {p : Bs} (hn : findE es p = none) (ho : overN es (above p) = 0) : seenG (seeL ls) p (m + 1) = seenG (seeL ls) p m := by
  refine seen_down (by rw [seeL_at h]; exact hn) ?_
  have := up_over hR p
  rw [decide_eq_false (by omega)] at this
  rw [← this]
  simp only [seeL_at h]

set_option maxRecDepth 100000 in
set_option maxHeartbeats 6400000 in
theorem l8Place_any (a : Option Addr) (c n : Nat) (ls : List (List En)) (p : Bs) (w : World) (h : RdL w a ls) (hn : n = ls.length) (h4 : ls.length ≤ 4) (hR : ∀ es ∈ ls, Right es) (hp : faultP p = 0) (hpl : p.length ≤ 1048576) :
    Calls Tryz.prog 63 #[.slice a n c, .string (str p)] w fun r w' => r = .returned (.int .i64 (placeI (seenL ls p))) ∧ Below w.heap.size w w' := by
  subst hn
  have HR := hide h
  have HRi := hide hR
  have HV0 := hide (show seenL ls p = seenG (seeL ls) p ls.length from seen_over h4)
  have hw1 : IntKind.i64.wrap ((ls.length : Int) - 1) = (ls.length : Int) - 1 := by simp [IntKind.wrap, IntKind.signed, IntKind.bits]; omega
  clear h hR
  generalize hV : seenL ls p = V at *
  clear hV
  go_enter Tryz.func63, Tryz.ntmps63
  go_wp2_with fail
  go_loopw [5] (fun i wr => ∃ k : Nat, k ≤ ls.length ∧ i = .int .i64 ((k : Int) - 1) ∧ Hid (V = seenG (seeL ls) p k) ∧ Hid (Below w.heap.size w wr)) (fun i _ => (intOf i + 1).toNat)
  case atStart => exact ⟨ls.length, Nat.le_refl _, rfl, HV0, hide (Below.refl _ _)⟩
  case round =>
    obtain ⟨k, hk, hi, HV, HW⟩ := hrel
    cases k with
    | zero =>
      rw [show ((0 : Nat) : Int) - 1 = -1 from rfl] at hi
      subst hi
      have HN := hide (show V = none from HV.out)
      go_wp2_with fail
      go_ret
      exact ⟨by rw [HN.out]; rfl, HW.out⟩
    | succ m =>
      rw [show ((m + 1 : Nat) : Int) - 1 = (m : Int) from by omega] at hi
      subst hi
      have hm0 : (0 : Int) ≤ (m : Int) := by omega
      have hm1 : (m : Int) < (ls.length : Int) := by omega
      have hm2 : IntKind.i64.wrap ((m : Int) - 1) = (m : Int) - 1 := by simp [IntKind.wrap, IntKind.signed, IntKind.bits]; omega
      obtain ⟨b, off, es, x, cc, rfl, hb, he, c0, hr⟩ := (HR.out.below HW.out).at (k := m) (by omega)
      have hRi := HRi.out es (List.mem_of_getElem? he)
      have hel := hRi.len
      have HX := hide he
      have HRI := hide hRi
      have HOV := hide (l8Over_any x cc es.length es p wr hr rfl (by omega) hp hpl)
      have HAT : Hid (∀ w', Below wr.heap.size wr w' → Calls Tryz.prog 78 #[.slice x es.length cc, .string (str p)] w' fun r w2 => r = .returned (.int .i64 (placeI (atE es p))) ∧ w2 = w') := hide (fun w' hb' => l4At_any x cc es.length es p w' (hr.below hb') rfl (by omega))
      have HRE := hide hr
      have KC : Hid (∀ w', Below wr.heap.size wr w' → w'.cell? ⟨b, off + m, none⟩ = some (.slice x es.length cc)) := hide (fun w' hb' => (hb'.cell (p := ⟨b, off + m, none⟩) hb).trans c0)
      clear he hRi hr
      cases ha : atE es p with
      | none =>
        have hf := find_at_none ha
        rw [ha] at HAT
        have e1 : placeI none = -1 := rfl
        rw [e1] at HAT
        clear ha e1
        rcases over_cases es (above p) with ho | ho | ho
        · have HN := hide (HV.out.trans (seen_on HX.out HRI.out hf ho))
          rw [ho] at HOV
          clear hf ho
          go_wp2_with fail
          refine HOV.out.mono ?_
          rintro r w1 ⟨rfl, hb1⟩
          have B1 := hide hb1
          have c1 := KC.out w1 hb1
          clear hb1 c0
          go_wp2_with fail
          refine (HAT.out w1 B1.out).mono ?_
          rintro r w2 ⟨rfl, rfl⟩
          go_wp2_with fail
          go_roundw
          case rel => exact ⟨m, by omega, rfl, HN, hide (below_next HW.out B1.out)⟩
          case measure => simp [intOf]
        · have HN := hide (HV.out.trans (seen_up HX.out HRI.out hf (by omega)))
          rw [ho] at HOV
          clear hf ho
          go_wp2_with fail
          refine HOV.out.mono ?_
          rintro r w1 ⟨rfl, hb1⟩
          have B1 := hide hb1
          have c1 := KC.out w1 hb1
          clear hb1 c0
          go_wp2_with fail
          refine (HAT.out w1 B1.out).mono ?_
          rintro r w2 ⟨rfl, rfl⟩
          go_wp2_with fail
          go_ret
          exact ⟨by rw [HN.out]; rfl, below_next HW.out B1.out⟩
        · have HN := hide (HV.out.trans (seen_up HX.out HRI.out hf (by omega)))
          rw [ho] at HOV
          clear hf ho
          go_wp2_with fail
          refine HOV.out.mono ?_
          rintro r w1 ⟨rfl, hb1⟩
          have B1 := hide hb1
          clear hb1 c0
          go_wp2_with fail
          go_ret
          exact ⟨by rw [HN.out]; rfl, below_next HW.out B1.out⟩
      | some q =>
        obtain ⟨e, he, hf⟩ := find_at_some ha
        have hq := atE_lt ha
        have hno := over_there HRI.out hp hf
        have HHit := hide (HV.out.trans (seen_hit (by rw [seeL_at HX.out]; exact hf)))
        rw [ha] at HAT
        have e1 : placeI (some q) = (q : Int) := rfl
        rw [e1] at HAT
        have hq0 : (0 : Int) ≤ (q : Int) := by omega
        have hq1 : (q : Int) < (es.length : Int) := by omega
        obtain ⟨bb, off2, e', x', cc', rfl, hb2, he', z0, z1, z2, z3, hr'⟩ := HRE.out.at hq
        have : e' = e := Option.some.inj (he'.symm.trans he)
        subst this
        have KZ : Hid (∀ w', Below wr.heap.size wr w' → w'.cell? ⟨bb, off2 + q * 4 + 1, none⟩ = some (.int .i64 e'.kind)) := hide (fun w' hb' => (hb'.cell (p := ⟨bb, off2 + q * 4 + 1, none⟩) hb2).trans z1)
        have h2 : (overN es (above p) == 2) = false := by simpa using hno
        generalize overN es (above p) = O at *
        clear ha e1 he he' hr' z0 z1 z2 z3 hno hf
        by_cases h3 : e'.kind = 3
        · rw [if_pos h3] at HHit
          have h3' : (e'.kind == 3) = true := by simpa using h3
          clear h3
          go_wp2_with fail
          refine HOV.out.mono ?_
          rintro r w1 ⟨rfl, hb1⟩
          have B1 := hide hb1
          have c1 := KC.out w1 hb1
          have z1 := KZ.out w1 hb1
          clear hb1 c0
          go_wp2_with fail
          refine (HAT.out w1 B1.out).mono ?_
          rintro r w2 ⟨rfl, rfl⟩
          go_wp2_with fail
          go_ret
          exact ⟨by rw [HHit.out]; rfl, below_next HW.out B1.out⟩
        · rw [if_neg h3] at HHit
          have h3' : (e'.kind == 3) = false := by simpa using h3
          clear h3
          go_wp2_with fail
          refine HOV.out.mono ?_
          rintro r w1 ⟨rfl, hb1⟩
          have B1 := hide hb1
          have c1 := KC.out w1 hb1
          have z1 := KZ.out w1 hb1
          clear hb1 c0
          go_wp2_with fail
          refine (HAT.out w1 B1.out).mono ?_
          rintro r w2 ⟨rfl, rfl⟩
          go_wp2_with fail
          go_ret
          exact ⟨by rw [HHit.out]; rfl, below_next HW.out B1.out⟩
set_option maxRecDepth 100000 in
set_option maxHeartbeats 1600000 in
theorem l8Asked_any (a : Option Addr) (c n : Nat) (ls : List (List En)) (p : Bs) (w : World) (h : RdL w a ls) (hn : n = ls.length) (hl : ls.length ≤ 1048576) (hs : SmallL ls) (hg : ∀ es ∈ ls, layFault es = layFaultP es) (hpl : p.length ≤ 1048576) :
    Calls Tryz.prog 124 #[.slice a n c, .string (str p)] w fun r w' => r = .returned (.int .i64 (askL ls p)) ∧ Below w.heap.size w w' := by
  subst hn
  have hsz := str_size p
  have HLF := hide (specLayersFault_any a c ls.length ls w h rfl hl hs hg)
  have HPF : Hid (∀ w', Calls Tryz.prog 155 #[.string (str p)] w' fun e w2 => e = .returned (.int .i64 (faultP p)) ∧ Below w'.heap.size w' w2) := hide (fun w' => by have h1 := l3Fault_any (str p) w' (by omega); rw [str_data] at h1; exact h1)
  clear h hs hg
  by_cases hz : layersP ls = 0
  · have HZ := hide (show askL ls p = faultP p by rw [askL, if_pos hz])
    rw [hz] at HLF
    clear hz
    go_enter Tryz.func124, Tryz.ntmps124
    go_wp2_with fail
    refine HLF.out.mono ?_
    rintro r w1 ⟨rfl, hb1⟩
    have B1 := hide hb1
    clear hb1
    go_wp2_with fail
    refine (HPF.out w1).mono ?_
    rintro r w2 ⟨rfl, hb2⟩
    have B2 := hide (below_next B1.out hb2)
    clear hb2
    go_wp2_with fail
    go_ret
    exact ⟨by rw [HZ.out]; rfl, B2.out⟩
  · have HZ := hide (show askL ls p = layersP ls by rw [askL, if_neg hz])
    generalize layersP ls = F at *
    have hz2 : (F != 0) = true := by simp; exact hz
    clear hz
    go_enter Tryz.func124, Tryz.ntmps124
    go_wp2_with fail
    refine HLF.out.mono ?_
    rintro r w1 ⟨rfl, hb1⟩
    have B1 := hide hb1
    clear hb1
    go_wp2_with fail
    go_ret
    exact ⟨by rw [HZ.out]; rfl, B1.out⟩
set_option maxRecDepth 100000 in
set_option maxHeartbeats 1600000 in
theorem l8In_any (a : Option Addr) (c n : Nat) (ps : List Bs) (p : Bs) (w : World) (h : ReadsS w a ps) (hn : n = ps.length) (hl : ps.length ≤ 1048576) :
    Calls Tryz.prog 64 #[.slice a n c, .string (str p)] w fun r w' => r = .returned (.bool (decide (p ∈ ps))) ∧ w' = w := by
  subst hn
  have HR := hide h
  clear h
  go_enter Tryz.func64, Tryz.ntmps64
  go_wp2_with fail
  go_loopw [5] (fun i wr => ∃ k : Nat, k ≤ ps.length ∧ i = .int .i64 k ∧ wr = w ∧ Hid (p ∉ ps.take k)) (fun i _ => ps.length - (intOf i).toNat)
  case atStart => exact ⟨0, Nat.zero_le _, rfl, rfl, hide (by simp)⟩
  case round =>
    obtain ⟨k, hk, rfl, rfl, HN⟩ := hrel
    by_cases hlt : k < ps.length
    · obtain ⟨b, off, q, rfl, hb, he, c0⟩ := HR.out.at hlt
      have hk0 : (0 : Int) ≤ (k : Int) := by omega
      have hk1 : (k : Int) < (ps.length : Int) := by omega
      by_cases hq : q = p
      · have hq2 := str_yes hq
        have HT := hide (show decide (p ∈ ps) = true from decide_eq_true (by rw [← hq]; exact List.mem_of_getElem? he))
        clear hq he
        go_wp2_with fail
        go_ret
        exact ⟨by rw [HT.out]; rfl, rfl⟩
      · have hq2 := str_no hq
        have HT := hide (show p ∉ ps.take (k + 1) from by
          rw [take_at he]
          intro hm
          rcases List.mem_append.1 hm with hm | hm
          · exact HN.out hm
          · simp at hm; exact hq hm.symm)
        clear hq he
        go_wp2_with fail
        go_roundw
        case rel => exact ⟨k + 1, by omega, by go_num, (by first | rfl | trivial), HT⟩
        case measure => simp [intOf]; omega
    · have HT := hide (show decide (p ∈ ps) = false from decide_eq_false (by have := HN.out; rwa [List.take_of_length_le (by omega)] at this))
      go_wp2_with fail
      go_ret
      exact ⟨by rw [HT.out]; rfl, rfl⟩
end Go.Proofs.YtejipahfodhmjaaGreat

namespace Go.Proofs.YtejipahfodhmjaaGreat
set_option linter.unusedVariables false

def RiseS (ns : List Bs) : Prop := ns.Pairwise fun x y => Op.bytesLess x y = true
def mkE (n : Bs) : En := ⟨n, 0, 0, []⟩
theorem riseS_mk {ns : List Bs} : Rise (ns.map mkE) ↔ RiseS ns := by
  unfold Rise RiseS
  rw [List.pairwise_map]
  exact Iff.rfl
theorem map_mk_path (ns : List Bs) : (ns.map mkE).map En.path = ns := by
  rw [List.map_map]
  conv => rhs; rw [← List.map_id ns]
  exact List.map_congr_left fun _ _ => rfl
theorem riseS_ext {a b : List Bs} (ha : RiseS a) (hb : RiseS b) (h : ∀ x, x ∈ a ↔ x ∈ b) : a = b := by
  have h1 : a.map mkE = b.map mkE := by
    have hra := riseS_mk.2 ha
    have hrb := riseS_mk.2 hb
    refine rise_ext hra hrb (fun q => ?_)
    by_cases hq : q ∈ a
    · have e1 := rise_find hra (List.mem_map.2 ⟨q, hq, rfl⟩)
      have e2 := rise_find hrb (List.mem_map.2 ⟨q, (h q).1 hq, rfl⟩)
      exact e1.trans e2.symm
    · have hq2 : q ∉ b := fun hb => hq ((h q).2 hb)
      rw [find_none (fun x hx e => ?_), find_none (fun x hx e => ?_)]
      · obtain ⟨y, hy, rfl⟩ := List.mem_map.1 hx
        exact hq2 (by rw [← e]; exact hy)
      · obtain ⟨y, hy, rfl⟩ := List.mem_map.1 hx
        exact hq (by rw [← e]; exact hy)
  rw [← map_mk_path a, ← map_mk_path b, h1]
theorem putS_mk (ps : List Bs) (p : Bs) : (putS ps p).map mkE = putAt (ps.map mkE) (mkE p) := by
  have h1 : lowN (ps.map mkE) p = lowS ps p := by
    unfold lowN lowS
    rw [List.takeWhile_map, List.length_map]
    rfl
  unfold putS putAt
  rw [show (mkE p).path = p from rfl, h1]
  simp
theorem mem_putS {ps : List Bs} {p x : Bs} : x ∈ putS ps p ↔ x = p ∨ x ∈ ps := by
  have h1 : mkE x ∈ (putS ps p).map mkE ↔ x ∈ putS ps p := by
    constructor
    · intro h
      obtain ⟨y, hy, he⟩ := List.mem_map.1 h
      have : y = x := congrArg En.path he
      rw [← this]; exact hy
    · exact fun h => List.mem_map.2 ⟨x, h, rfl⟩
  rw [← h1, putS_mk, mem_putAt]
  constructor
  · rintro (h | h)
    · exact .inl (congrArg En.path h)
    · obtain ⟨y, hy, he⟩ := List.mem_map.1 h
      have : y = x := congrArg En.path he
      exact .inr (by rw [← this]; exact hy)
  · rintro (h | h)
    · exact .inl (by rw [h])
    · exact .inr (List.mem_map.2 ⟨x, h, rfl⟩)
theorem riseS_put {ps : List Bs} {p : Bs} (h : RiseS ps) (hn : p ∉ ps) : RiseS (putS ps p) := by
  rw [← riseS_mk, putS_mk]
  refine rise_putAt (riseS_mk.2 h) (fun x hx e => ?_)
  obtain ⟨y, hy, rfl⟩ := List.mem_map.1 hx
  have : y = p := e
  exact hn (by rw [← this]; exact hy)
end Go.Proofs.YtejipahfodhmjaaGreat

namespace Go.Proofs.YtejipahfodhmjaaGreat
open Go.RowKit Go.Maps
set_option linter.unusedVariables false
attribute [local go_sem ↓] Go.wp_at_zero Go.wp_at_succ

def LookNo (w : World) (r : Ending) (w' : World) : Prop :=
  r = .returned (.tuple #[.agg #[.string ⟨#[]⟩, .int .i64 0, .int .i64 0, .slice none 0 0], .bool false]) ∧ Below w.heap.size w w'
def LookYes (e : En) (w : World) (r : Ending) (w' : World) : Prop :=
  ∃ x c, r = .returned (.tuple #[.agg #[.string (str e.path), .int .i64 e.kind, .int .i64 e.size, .slice x e.chunks.length c], .bool true]) ∧ w'.ownsRow w.heap.size 2 1 (.slice x e.chunks.length c) e.chunks.length (e.chunks.map (Value.int .i64)) ∧ Below w.heap.size w w'

def Eight (w : World) (b : Nat) (u0 u1 u2 u3 : Value) : Prop := Four w b u0 u1 u2 u3 ∧ ∀ i, w.frozen? ⟨b, i, none⟩ = false
theorem Eight.new (w : World) (u0 u1 u2 u3 : Value) (t : TypeId) : Eight (w.alloc (.cells #[u0, u1, u2, u3] t)).drew w.heap.size u0 u1 u2 u3 :=
  ⟨(Four.new w u0 u1 u2 u3 t).below (Below.refl _ _).drew, fun i => ((Below.refl (w.alloc (.cells #[u0, u1, u2, u3] t)).heap.size _).drew.frozen (p := ⟨w.heap.size, i, none⟩) (by simp)).trans (by simp)⟩
theorem Eight.below {w w' : World} {b : Nat} {u0 u1 u2 u3 : Value} (h : Eight w b u0 u1 u2 u3) (hk : Below w.heap.size w w') : Eight w' b u0 u1 u2 u3 :=
  ⟨h.1.below hk, fun i => (hk.frozen (p := ⟨b, i, none⟩) h.1.lt).trans (h.2 i)⟩
theorem Eight.kept {S : Nat → Prop} {w w' : World} {b : Nat} {u0 u1 u2 u3 : Value} (h : Eight w b u0 u1 u2 u3) (hk : Kept S w w') (hn : ¬ S b) : Eight w' b u0 u1 u2 u3 :=
  ⟨⟨(hk.cell (p := ⟨b, 0, none⟩) h.1.lt hn).trans h.1.1, (hk.cell (p := ⟨b, 1, none⟩) h.1.lt hn).trans h.1.2.1, (hk.cell (p := ⟨b, 2, none⟩) h.1.lt hn).trans h.1.2.2.1, (hk.cell (p := ⟨b, 3, none⟩) h.1.lt hn).trans h.1.2.2.2⟩, fun i => (hk.frozen (p := ⟨b, i, none⟩) h.1.lt hn).trans (h.2 i)⟩
theorem Eight.set1 {w : World} {b : Nat} {u0 u1 u2 u3 : Value} (h : Eight w b u0 u1 u2 u3) (v : Value) : Eight (w.setCell ⟨b, 1, none⟩ v) b u0 v u2 u3 :=
  ⟨⟨by rw [cell_set_other (by simp)]; exact h.1.1, cell_set_same h.1.2.1, by rw [cell_set_other (by simp)]; exact h.1.2.2.1, by rw [cell_set_other (by simp)]; exact h.1.2.2.2⟩, fun i => by rw [World.frozen?_setCell]; exact h.2 i⟩

set_option maxRecDepth 100000 in
set_option maxHeartbeats 3200000 in
theorem l8Look_none (a : Option Addr) (c n : Nat) (ls : List (List En)) (p : Bs) (w : World) (h : RdL w a ls) (hn : n = ls.length) (h4 : ls.length ≤ 4) (hR : ∀ es ∈ ls, Right es) (hp : faultP p = 0) (hpl : p.length ≤ 1048576) (hs : seenL ls p = none) :
    Calls Tryz.prog 77 #[.slice a n c, .string (str p)] w (LookNo w) := by
  subst hn
  have X0 := hide (Four.new w (.string ⟨#[]⟩) (.int .i64 0) (.int .i64 0) (.slice none 0 0) 40)
  have B0 := hide (below_alloc w (.cells #[.string ⟨#[]⟩, .int .i64 0, .int .i64 0, .slice none 0 0] 40))
  have HPL := hide (l8Place_any a c ls.length ls p _ (h.below B0.out) rfl h4 hR hp hpl)
  rw [hs, show placeI none = -1 from rfl] at HPL
  have f0 : ∀ i, (w.alloc (.cells #[.string ⟨#[]⟩, .int .i64 0, .int .i64 0, .slice none 0 0] 40)).frozen? ⟨w.heap.size, i, none⟩ = false := fun i => by simp
  clear h hR hs
  go_enter Tryz.func77, Tryz.ntmps77
  go_wp2_with fail
  refine HPL.out.mono ?_
  rintro r w1 ⟨rfl, hb1⟩
  have B1 := hide (below_next B0.out hb1)
  obtain ⟨t0, t1, t2, t3⟩ := X0.out.below hb1
  have g0 := fun i => (hb1.frozen (p := ⟨w.heap.size, i, none⟩) X0.out.lt).trans (f0 i)
  have g1 := g0 0
  have g2 := g0 1
  have g3 := g0 2
  have g4 := g0 3
  clear hb1 g0 f0
  go_wp2_with fail
  refine bodyPost_ret (v := .tuple #[.agg #[.string ⟨#[]⟩, .int .i64 0, .int .i64 0, .slice none 0 0], .bool false]) (by simp [results, Tryz.results77, go_sem, t0, t1, t2, t3]) rfl ⟨rfl, ?_⟩
  exact (((B1.out.setCell (p := ⟨w.heap.size, 0, none⟩) (Nat.le_refl _) _).setCell (p := ⟨w.heap.size, 1, none⟩) (Nat.le_refl _) _).setCell (p := ⟨w.heap.size, 2, none⟩) (Nat.le_refl _) _).setCell (p := ⟨w.heap.size, 3, none⟩) (Nat.le_refl _) _
set_option maxRecDepth 100000 in
set_option maxHeartbeats 6400000 in
theorem l8Look_some (a : Option Addr) (c n : Nat) (ls : List (List En)) (p : Bs) (w : World) (h : RdL w a ls) (hn : n = ls.length) (h4 : ls.length ≤ 4) (hR : ∀ es ∈ ls, Right es) (hp : faultP p = 0) (hpl : p.length ≤ 1048576) (i : Nat) (e : En) (hs : seenL ls p = some i) (he : seeL ls i p = some e) :
    Calls Tryz.prog 77 #[.slice a n c, .string (str p)] w (LookYes (asT e) w) := by
  subst hn
  obtain ⟨i0, hi0, hz0, hz1, hz2⟩ := info_parts Tryz.infoI64
  have X0 := hide (Four.new w (.string ⟨#[]⟩) (.int .i64 0) (.int .i64 0) (.slice none 0 0) 40)
  have B0 := hide (below_alloc w (.cells #[.string ⟨#[]⟩, .int .i64 0, .int .i64 0, .slice none 0 0] 40))
  have HPL := hide (l8Place_any a c ls.length ls p _ (h.below B0.out) rfl h4 hR hp hpl)
  rw [hs, show placeI (some i) = (i : Int) from rfl] at HPL
  have f0 : ∀ i, (w.alloc (.cells #[.string ⟨#[]⟩, .int .i64 0, .int .i64 0, .slice none 0 0] 40)).frozen? ⟨w.heap.size, i, none⟩ = false := fun i => by simp
  have hil : i < ls.length := by
    have := seeL_mem he
    unfold seeL at he
    cases hh : ls[i]? with
    | none => rw [hh] at he; cases he
    | some y => exact (List.getElem?_eq_some_iff.1 hh).1
  obtain ⟨b, off, es, x, cc, rfl, hb, hes, c0, hr⟩ := h.at hil
  have hRi := hR es (List.mem_of_getElem? hes)
  have hel := hRi.len
  have hfe : findE es p = some e := by rw [← seeL_at hes]; exact he
  obtain ⟨q, hq⟩ : ∃ q, atE es p = some q := by
    cases ha : atE es p with
    | none => rw [find_at_none ha] at hfe; cases hfe
    | some q => exact ⟨q, rfl⟩
  obtain ⟨e', he', hfe'⟩ := find_at_some hq
  have : e' = e := Option.some.inj (hfe'.symm.trans hfe)
  subst this
  have hqlt := atE_lt hq
  obtain ⟨bb, off2, e2, y, yc, rfl, hbb, he2, z0, z1, z2, z3, hrc⟩ := hr.at hqlt
  have : e2 = e' := Option.some.inj (he2.symm.trans he')
  subst this
  have hsm := right_small hRi e2 (List.mem_of_getElem? he2)
  have hek := ent_kinds (hRi.ent e2 (List.mem_of_getElem? he2))
  have KS : Hid (∀ w', Below w.heap.size w w' → w'.cell? ⟨b, off + i, none⟩ = some (.slice (some ⟨bb, off2, none⟩) es.length cc) ∧ w'.cell? ⟨bb, off2 + q * 4, none⟩ = some (.string (str e2.path)) ∧ w'.cell? ⟨bb, off2 + q * 4 + 1, none⟩ = some (.int .i64 e2.kind) ∧ w'.cell? ⟨bb, off2 + q * 4 + 2, none⟩ = some (.int .i64 e2.size) ∧ w'.cell? ⟨bb, off2 + q * 4 + 3, none⟩ = some (.slice y e2.chunks.length yc)) := hide (fun w' hb' => ⟨(hb'.cell (p := ⟨b, off + i, none⟩) hb).trans c0, (hb'.cell (p := ⟨bb, off2 + q * 4, none⟩) hbb).trans z0, (hb'.cell (p := ⟨bb, off2 + q * 4 + 1, none⟩) hbb).trans z1, (hb'.cell (p := ⟨bb, off2 + q * 4 + 2, none⟩) hbb).trans z2, (hb'.cell (p := ⟨bb, off2 + q * 4 + 3, none⟩) hbb).trans z3⟩)
  have HAT : Hid (∀ w', Below w.heap.size w w' → Calls Tryz.prog 78 #[.slice (some ⟨bb, off2, none⟩) es.length cc, .string (str p)] w' fun r w2 => r = .returned (.int .i64 q) ∧ w2 = w') := hide (fun w' hb' => by have h1 := l4At_any (some ⟨bb, off2, none⟩) cc es.length es p w' (hr.below hb') rfl (by omega); rw [hq] at h1; exact h1)
  have HRC := hide hrc
  have hi1 : (0 : Int) ≤ (i : Int) := by omega
  have hi2 : (i : Int) < (ls.length : Int) := by omega
  have hi3 : ¬ (i : Int) < 0 := by omega
  have hq1 : (0 : Int) ≤ (q : Int) := by omega
  have hq2 : (q : Int) < (es.length : Int) := by omega
  clear h hR hs he hes c0 hr hRi hfe hq he' hfe' he2 z0 z1 z2 z3 hrc
  go_enter Tryz.func77, Tryz.ntmps77
  go_wp2_with fail
  refine HPL.out.mono ?_
  rintro r w1 ⟨rfl, hb1⟩
  have B1 := hide (below_next B0.out hb1)
  have X1 := hide (X0.out.below hb1)
  have FZ := hide (fun i => (hb1.frozen (p := ⟨w.heap.size, i, none⟩) X0.out.lt).trans (f0 i))
  clear hb1 f0 X0 HPL
  obtain ⟨s0, s1, s2, s3, s4⟩ := KS.out _ B1.out
  go_wp2_with fail
  go_region_held3 (fun w' => w'.cell? ⟨b, off + i, none⟩ = some (.slice (some ⟨bb, off2, none⟩) es.length cc) ∧ w'.cell? ⟨bb, off2 + q * 4, none⟩ = some (.string (str e2.path)) ∧ w'.cell? ⟨bb, off2 + q * 4 + 1, none⟩ = some (.int .i64 e2.kind) ∧ w'.cell? ⟨bb, off2 + q * 4 + 2, none⟩ = some (.int .i64 e2.size) ∧ w'.cell? ⟨bb, off2 + q * 4 + 3, none⟩ = some (.slice y e2.chunks.length yc)) (first | exact KS.out _ B1.out.drew | exact KS.out _ (below_next B1.out (below_alloc _ _)).drew | exact KS.out _ (below_next B1.out (below_alloc _ _)) | go_keep)
    ((go_at_call 78; refine (HAT.out _ (by first | exact B1.out.drew | exact (below_next B1.out (below_alloc _ _)).drew)).mono ?_; rintro r w9 ⟨rfl, hw9⟩; have hw8 := hw9.symm; clear hw9; subst hw8))
  all_goals
    have BD := hide (below_next B1.out (below_alloc w1 (.cells #[.string (str e2.path), .int .i64 e2.kind, .int .i64 e2.size, .slice y e2.chunks.length yc] 40))).drew
    have BE := hide ((below_alloc w1 (.cells #[.string (str e2.path), .int .i64 e2.kind, .int .i64 e2.size, .slice y e2.chunks.length yc] 40)).drew)
    have XE : Hid (Eight (w1.alloc (.cells #[.string (str e2.path), .int .i64 e2.kind, .int .i64 e2.size, .slice y e2.chunks.length yc] 40)).drew w1.heap.size (.string (str e2.path)) (.int .i64 e2.kind) (.int .i64 e2.size) (.slice y e2.chunks.length yc)) := hide (Eight.new w1 _ _ _ _ _)
    have XR : Hid (Eight (w1.alloc (.cells #[.string (str e2.path), .int .i64 e2.kind, .int .i64 e2.size, .slice y e2.chunks.length yc] 40)).drew w.heap.size (.string ⟨#[]⟩) (.int .i64 0) (.int .i64 0) (.slice none 0 0)) := hide (Eight.below (w := w1) ⟨X1.out, FZ.out⟩ BE.out)
    have hRE : w.heap.size < w1.heap.size := X1.out.lt
    have hEW : w1.heap.size < (w1.alloc (.cells #[.string (str e2.path), .int .i64 e2.kind, .int .i64 e2.size, .slice y e2.chunks.length yc] 40)).drew.heap.size := XE.out.1.lt
    clear X1 FZ s0 s1 s2 s3 s4 KS HAT BE B1 B0
    generalize (w1.alloc (.cells #[.string (str e2.path), .int .i64 e2.kind, .int .i64 e2.size, .slice y e2.chunks.length yc] 40)).drew = WD at *
    generalize w1.heap.size = be at *
    have hne : w.heap.size ≠ be := by omega
    have hne2 : be ≠ w.heap.size := by omega
    have hm0 : 0 + e2.chunks.length ≤ maxLen := by unfold maxLen; omega
    have hm0' : (0 + e2.chunks.length) * 8 ≤ 140737488355328 := by omega
    obtain ⟨⟨e0, e1, e3, e4⟩, ez⟩ := XE.out
    have ez1 := ez 1
    have ez3 := ez 3
    clear ez
    by_cases h4k : e2.kind = 4
    · have h4' : (e2.kind == 4) = true := by simpa using h4k
      have HAS := hide (show asT e2 = ⟨e2.path, 2, e2.size, e2.chunks⟩ from by unfold asT; rw [if_pos h4k]; rfl)
      clear h4k
      have XE5 := hide (XE.out.set1 (.int .i64 2))
      have XR5 := hide (XR.out.kept (Kept.setCell (S := fun b => b = be) (p := ⟨be, 1, none⟩) (Kept.refl _ WD) (fun _ => rfl) (.int .i64 2)) hne)
      have BW5 := hide (BD.out.setCell (p := ⟨be, 1, none⟩) (by show w.heap.size ≤ be; omega) (.int .i64 2))
      have hz5 : (WD.setCell ⟨be, 1, none⟩ (.int .i64 2)).heap.size = WD.heap.size := by simp [World.setCell]
      have OWN0 : Hid (((WD.setCell ⟨be, 1, none⟩ (.int .i64 2)).alloc (.cells #[] 2)).ownsRow WD.heap.size 2 1 (.slice (some ⟨WD.heap.size, 0, none⟩) 0 0) 0 (([] : List Int).map (Value.int .i64))) := hide (by have h := World.ownsRow_made (base := (WD.setCell ⟨be, 1, none⟩ (.int .i64 2)).heap.size) (e := 2) (size := 1) (WD.setCell ⟨be, 1, none⟩ (.int .i64 2)) #[] 0 (Nat.le_refl _) (Nat.zero_le _) rfl; rw [hz5] at h; exact h)
      have RD0 : Hid (Reads .i64 ((WD.setCell ⟨be, 1, none⟩ (.int .i64 2)).alloc (.cells #[] 2)) y e2.chunks) := hide (HRC.out.below (below_next BW5.out (below_alloc _ _)))
      have XEA := hide (XE5.out.below (below_alloc (WD.setCell ⟨be, 1, none⟩ (.int .i64 2)) (.cells #[] 2)))
      have XRA := hide (XR5.out.below (below_alloc (WD.setCell ⟨be, 1, none⟩ (.int .i64 2)) (.cells #[] 2)))
      have hlE : be < WD.heap.size := XE.out.1.lt
      have hlR : w.heap.size < WD.heap.size := XR.out.1.lt
      have KK : Hid (∀ W6 : World, Kept (fun b => b = WD.heap.size) ((WD.setCell ⟨be, 1, none⟩ (.int .i64 2)).alloc (.cells #[] 2)) W6 → Eight W6 be (.string (str e2.path)) (.int .i64 2) (.int .i64 e2.size) (.slice y e2.chunks.length yc) ∧ Eight W6 w.heap.size (.string ⟨#[]⟩) (.int .i64 0) (.int .i64 0) (.slice none 0 0)) := hide (fun W6 hk => ⟨XEA.out.kept hk (by omega), XRA.out.kept hk (by omega)⟩)
      clear XEA XRA
      go_wp2_with (at_builtin; refine wpList_append_take rfl (.tmp 30) (.tmp 32) 31 rfl WD.heap.size 2 i0 .i64 8 Tryz.underlying31 hi0 hz0 hz1 hz2 WD.heap.size 0 0 [] rfl OWN0.out y e2.chunks.length yc e2.chunks rfl rfl RD0.out e2.chunks.length (by simp) hm0 hm0' (by simp) ?_; intro av cv w6 hown6 hk6; obtain ⟨⟨⟨p0, p1, p2, p3⟩, pz⟩, ⟨⟨r0, r1, r2, r3⟩, rz⟩⟩ := KK.out _ hk6; have pz3 := pz 3; have rz0 := rz 0; have rz1 := rz 1; have rz2 := rz 2; have rz3 := rz 3; have O6 := hide hown6; have K6 := hide hk6; clear pz rz hown6 hk6)
      have BB6 := hide ((below_next BW5.out (below_alloc (WD.setCell ⟨be, 1, none⟩ (.int .i64 2)) (.cells #[] 2))).trans (K6.out.below (B := w.heap.size) (by have := (below_next BW5.out (below_alloc (WD.setCell ⟨be, 1, none⟩ (.int .i64 2)) (.cells #[] 2))).size; omega) (fun k hk hS => by omega)))
      rw [HAS.out]
      refine bodyPost_ret (v := .tuple #[.agg #[.string (str e2.path), .int .i64 2, .int .i64 e2.size, .slice av e2.chunks.length cv], .bool true]) (by simp [results, Tryz.results77, go_sem, r0, r1, r2, r3]) rfl ⟨av, cv, rfl, ?_, ?_⟩
      · refine ownsRow_mono (base := WD.heap.size) ?_ (by omega)
        refine ownsRow_kept (S := fun b => b = be ∨ b = w.heap.size) (by simpa using O6.out) ?_ (fun b hb hS => by have := (O6.out.lt b hb).1; omega)
        exact Kept.setCell (S := fun b => b = be ∨ b = w.heap.size) (p := ⟨w.heap.size, 3, none⟩) (Kept.setCell (S := fun b => b = be ∨ b = w.heap.size) (p := ⟨w.heap.size, 2, none⟩) (Kept.setCell (S := fun b => b = be ∨ b = w.heap.size) (p := ⟨w.heap.size, 1, none⟩) (Kept.setCell (S := fun b => b = be ∨ b = w.heap.size) (p := ⟨w.heap.size, 0, none⟩) (Kept.setCell (S := fun b => b = be ∨ b = w.heap.size) (p := ⟨be, 3, none⟩) (Kept.refl _ _) (fun _ => .inl rfl) _) (fun _ => .inr rfl) _) (fun _ => .inr rfl) _) (fun _ => .inr rfl) _) (fun _ => .inr rfl) _
      · exact ((((BB6.out.setCell (p := ⟨be, 3, none⟩) (by show w.heap.size ≤ be; omega) _).setCell (p := ⟨w.heap.size, 0, none⟩) (Nat.le_refl _) _).setCell (p := ⟨w.heap.size, 1, none⟩) (Nat.le_refl _) _).setCell (p := ⟨w.heap.size, 2, none⟩) (Nat.le_refl _) _).setCell (p := ⟨w.heap.size, 3, none⟩) (Nat.le_refl _) _
    · have h4' : (e2.kind == 4) = false := by simpa using h4k
      have HAS := hide (show asT e2 = ⟨e2.path, e2.kind, e2.size, e2.chunks⟩ from by unfold asT; rw [if_neg h4k])
      clear h4k
      have XE5 := XE
      have XR5 := XR
      have BW5 := BD
      have OWN0 : Hid ((WD.alloc (.cells #[] 2)).ownsRow WD.heap.size 2 1 (.slice (some ⟨WD.heap.size, 0, none⟩) 0 0) 0 (([] : List Int).map (Value.int .i64))) := hide (World.ownsRow_made (base := WD.heap.size) (e := 2) (size := 1) WD #[] 0 (Nat.le_refl _) (Nat.zero_le _) rfl)
      have RD0 : Hid (Reads .i64 (WD.alloc (.cells #[] 2)) y e2.chunks) := hide (HRC.out.below (below_next BW5.out (below_alloc _ _)))
      have XEA := hide (XE5.out.below (below_alloc WD (.cells #[] 2)))
      have XRA := hide (XR5.out.below (below_alloc WD (.cells #[] 2)))
      have hlE := XE5.out.1.lt
      have hlR := XR5.out.1.lt
      have KK : Hid (∀ W6 : World, Kept (fun b => b = WD.heap.size) (WD.alloc (.cells #[] 2)) W6 → Eight W6 be (.string (str e2.path)) (.int .i64 e2.kind) (.int .i64 e2.size) (.slice y e2.chunks.length yc) ∧ Eight W6 w.heap.size (.string ⟨#[]⟩) (.int .i64 0) (.int .i64 0) (.slice none 0 0)) := hide (fun W6 hk => ⟨XEA.out.kept hk (by omega), XRA.out.kept hk (by omega)⟩)
      clear XEA XRA
      go_wp2_with (at_builtin; refine wpList_append_take rfl (.tmp 30) (.tmp 32) 31 rfl WD.heap.size 2 i0 .i64 8 Tryz.underlying31 hi0 hz0 hz1 hz2 WD.heap.size 0 0 [] rfl OWN0.out y e2.chunks.length yc e2.chunks rfl rfl RD0.out e2.chunks.length (by simp) hm0 hm0' (by simp) ?_; intro av cv w6 hown6 hk6; obtain ⟨⟨⟨p0, p1, p2, p3⟩, pz⟩, ⟨⟨r0, r1, r2, r3⟩, rz⟩⟩ := KK.out _ hk6; have pz3 := pz 3; have rz0 := rz 0; have rz1 := rz 1; have rz2 := rz 2; have rz3 := rz 3; have O6 := hide hown6; have K6 := hide hk6; clear pz rz hown6 hk6)
      have BB6 := hide ((below_next BW5.out (below_alloc WD (.cells #[] 2))).trans (K6.out.below (B := w.heap.size) (by have := (below_next BW5.out (below_alloc WD (.cells #[] 2))).size; omega) (fun k hk hS => by omega)))
      rw [HAS.out]
      refine bodyPost_ret (v := .tuple #[.agg #[.string (str e2.path), .int .i64 e2.kind, .int .i64 e2.size, .slice av e2.chunks.length cv], .bool true]) (by simp [results, Tryz.results77, go_sem, r0, r1, r2, r3]) rfl ⟨av, cv, rfl, ?_, ?_⟩
      · refine ownsRow_mono (base := WD.heap.size) ?_ (by omega)
        refine ownsRow_kept (S := fun b => b = be ∨ b = w.heap.size) (by simpa using O6.out) ?_ (fun b hb hS => by have := (O6.out.lt b hb).1; omega)
        exact Kept.setCell (S := fun b => b = be ∨ b = w.heap.size) (p := ⟨w.heap.size, 3, none⟩) (Kept.setCell (S := fun b => b = be ∨ b = w.heap.size) (p := ⟨w.heap.size, 2, none⟩) (Kept.setCell (S := fun b => b = be ∨ b = w.heap.size) (p := ⟨w.heap.size, 1, none⟩) (Kept.setCell (S := fun b => b = be ∨ b = w.heap.size) (p := ⟨w.heap.size, 0, none⟩) (Kept.setCell (S := fun b => b = be ∨ b = w.heap.size) (p := ⟨be, 3, none⟩) (Kept.refl _ _) (fun _ => .inl rfl) _) (fun _ => .inr rfl) _) (fun _ => .inr rfl) _) (fun _ => .inr rfl) _) (fun _ => .inr rfl) _
      · exact ((((BB6.out.setCell (p := ⟨be, 3, none⟩) (by show w.heap.size ≤ be; omega) _).setCell (p := ⟨w.heap.size, 0, none⟩) (Nat.le_refl _) _).setCell (p := ⟨w.heap.size, 1, none⟩) (Nat.le_refl _) _).setCell (p := ⟨w.heap.size, 2, none⟩) (Nat.le_refl _) _).setCell (p := ⟨w.heap.size, 3, none⟩) (Nat.le_refl _) _
end Go.Proofs.YtejipahfodhmjaaGreat

namespace Go.Proofs.YtejipahfodhmjaaGreat
open Go.RowKit Go.Maps
set_option linter.unusedVariables false
attribute [local go_sem ↓] Go.wp_at_zero Go.wp_at_succ

theorem box_set1 {w : World} {b : Nat} {u v : Value} (h : Box w b u v) (v' : Value) : Box (w.setCell ⟨b, 1, none⟩ v') b u v' :=
  ⟨⟨by rw [cell_set_other (by simp)]; exact h.1.1, cell_set_same h.1.2⟩, by rw [World.frozen?_setCell]; exact h.2.1, by rw [World.frozen?_setCell]; exact h.2.2⟩
end Go.Proofs.YtejipahfodhmjaaGreat

namespace Go.Proofs.YtejipahfodhmjaaGreat
open Go.RowKit Go.Maps
set_option linter.unusedVariables false
attribute [local go_sem ↓] Go.wp_at_zero Go.wp_at_succ

theorem asT_chunks (e : En) : (asT e).chunks = e.chunks := by unfold asT; split <;> rfl

set_option maxRecDepth 100000 in
set_option maxHeartbeats 3200000 in
theorem implLookOver_any (a : Option Addr) (c n : Nat) (ls : List (List En)) (p : Bs) (w : World) (h : RdL w a ls) (hn : n = ls.length) (hl : ls.length ≤ 1048576) (hs : SmallL ls) (hp : p.length ≤ 1048576) :
    Calls Tryz.prog 13 #[.slice a n c, .string (str p)] w (ResE (plcC ls p) (lookL ls p) w) := by
  subst hn
  have X0 := hide (Box.new w (.int .i64 0) (.slice none 0 0) 37)
  have B0 := hide (below_alloc w (.cells #[.int .i64 0, .slice none 0 0] 37))
  have HR := hide h
  have HSL := hide hs
  have HAs := hide (implAskL_any a c ls.length ls p _ (h.below B0.out) rfl hl hs hp)
  clear h hs
  by_cases hz : askL ls p = 0
  · obtain ⟨h4, hRs, hpf⟩ := askL_right hz
    rw [hz] at HAs
    have HRs := hide (rights_sight hRs HSL.out)
    go_enter Tryz.func13, Tryz.ntmps13
    go_wp2_with fail
    refine HAs.out.mono ?_
    rintro r w1 ⟨rfl, hb1⟩
    have B1 := hide (below_next B0.out hb1)
    have X1 := hide (X0.out.below hb1)
    clear hb1 X0 B0 HAs
    go_wp2_with fail
    refine (sightOf_any a c ls.length ls w1 (HR.out.below B1.out) rfl h4 HRs.out).mono ?_
    rintro r w2 ⟨b, N, rfl, hbb, hN, hM, hb2⟩
    have HM := hide hM
    have BB2 := hide hb2
    have B2 := hide (below_next B1.out hb2)
    have X2 := hide (X1.out.below hb2)
    have HSA := hide (seenAt_any b N p (seeL ls) w1 w2 hM hp)
    clear hM hb2
    unfold ResW at HSA
    cases hsn : seenG (seeL ls) p 4 with
    | none =>
      have HC := hide (plc_none hz hsn)
      rw [hsn] at HSA
      clear hz hsn hRs hpf
      go_wp2_with fail
      refine HSA.out.mono ?_
      rintro r w3 ⟨⟨v, s, rfl⟩, hb3⟩
      have B3 := hide (below_next (below_next B2.out hb3) (below_alloc w3 (.cells #[.int .i64 v, .string s] 86)))
      obtain ⟨⟨t0, t1⟩, t2, t3⟩ := X2.out.below (below_next hb3 (below_alloc w3 (.cells #[.int .i64 v, .string s] 86)))
      clear hb3
      go_wp2_with fail
      exact bodyPost_ret (v := .agg #[.int .i64 4, .slice none 0 0]) (by simp [results, Tryz.results13, go_sem, t0, t1]) rfl (by rw [HC.out.1, HC.out.2.2]; exact ResE.bad (Nat.le_refl _) B3.out)
    | some k =>
      obtain ⟨hk4, e, he, -⟩ := seen_some hsn
      have HC := hide (plc_some hz hsn he)
      rw [hsn] at HSA
      obtain ⟨es, hes, hee, -⟩ := seeL_mem he
      have hkk := ent_kinds ((hRs es hes).ent e hee)
      have hsm := (HSL.out es hes).2 e hee
      clear hz hsn hRs hpf hes hee
      go_wp2_with fail
      refine HSA.out.mono ?_
      rintro r w3 ⟨rfl, hb3⟩
      have BA := hide (below_alloc w3 (.cells #[.int .i64 k, .string (str p)] 86))
      have B3 := hide (below_next (below_next B2.out hb3) BA.out)
      have X3 := hide (X2.out.below (below_next hb3 BA.out))
      have BB3 := hide (below_next (below_next BB2.out hb3) BA.out)
      obtain ⟨x, cc, -, hlk, hrd⟩ := ((HM.out.below hb3).below BA.out).yes (by omega : k ≤ 100) hp he
      have HL := hide hlk
      have HRc := hide (hrd.below BB3.out)
      have Y3 := hide (Box.new w3 (.int .i64 k) (.string (str p)) 86)
      unfold spotV
      clear hb3 hlk hrd he HM HSA X2 B2 BB2 BA
      obtain ⟨⟨y0, y1⟩, y2, y3⟩ := Y3.out
      unfold spotV at HL
      go_wp2_with (at_lookup; refine wpList_lookS rfl _ _ 83 false rfl _ _ _ rfl rfl HL.out ?_)
      refine (ofTree_any e x cc _ hkk).mono ?_
      rintro r w4 ⟨rfl, hb4⟩
      have B4 := hide (below_next B3.out hb4)
      have X4 := hide (X3.out.below hb4)
      have BA5 := hide (below_alloc w4 (.cells #[.int .i64 (asT e).size, .slice x (asT e).chunks.length cc, .string (str (asT e).path), .int .i64 (asT e).kind] 91))
      have HR4 := hide (show Reads .i64 w4 x (asT e).chunks by rw [asT_chunks]; exact HRc.out.below hb4)
      have RI5 := hide (RdI.fresh (e := asT e) (c := cc) (t := 91) HR4.out)
      have hsm2 : (asT e).path.length ≤ 1048576 ∧ (asT e).chunks.length ≤ 1048576 := by rw [asT_path, asT_chunks]; exact hsm
      have B5 := hide (below_next B4.out BA5.out)
      have X5 := hide (X4.out.below BA5.out)
      have hs4 := B4.out.size
      have hlt5 : w.heap.size < (w4.alloc (.cells #[.int .i64 (asT e).size, .slice x (asT e).chunks.length cc, .string (str (asT e).path), .int .i64 (asT e).kind] 91)).heap.size := X5.out.1.lt
      clear hb4 y0 y1 y2 y3 Y3 HL HRc HR4 X3 B3 BB3 X4 BA5
      unfold itV
      generalize asT e = E at *
      go_wp2_with fail
      generalize w4.alloc (.cells #[.int .i64 E.size, .slice x E.chunks.length cc, .string (str E.path), .int .i64 E.kind] 91) = W5 at *
      refine (entriesOf_any _ _ 1 [E] _ RI5.out rfl (by simp) (fun y hy => by simp only [List.mem_singleton] at hy; subst hy; exact hsm2)).mono ?_
      rintro r w7 ⟨av7, cv7, rfl, hG7, hb7⟩
      obtain ⟨⟨t0, t1⟩, t2, t3⟩ := X5.out.below hb7
      have G7 := hide hG7
      have B7 := hide (below_next B5.out hb7)
      clear hG7 hb7
      go_wp2_with fail
      exact bodyPost_ret (v := .agg #[.int .i64 0, .slice av7 1 cv7]) (by simp [results, Tryz.results13, go_sem, t0, t1]) rfl (by rw [HC.out.1, HC.out.2.2]; exact ResE.of (w2 := w1) hlt5 (Nat.le_refl _) rfl G7.out B7.out)
  · have HC := hide (plc_bad hz)
    generalize askL ls p = F at *
    have hz2 : (F != 0) = true := by simp; exact hz
    clear hz
    go_enter Tryz.func13, Tryz.ntmps13
    go_wp2_with fail
    refine HAs.out.mono ?_
    rintro r w1 ⟨rfl, hb1⟩
    have B1 := hide (below_next B0.out hb1)
    obtain ⟨⟨t0, t1⟩, t2, t3⟩ := X0.out.below hb1
    clear hb1
    go_wp2_with fail
    exact bodyPost_ret (v := .agg #[.int .i64 F, .slice none 0 0]) (by simp [results, Tryz.results13, go_sem, t0, t1]) rfl (by rw [HC.out.1, HC.out.2.2]; exact ResE.bad (Nat.le_refl _) B1.out)
end Go.Proofs.YtejipahfodhmjaaGreat

namespace Go.Proofs.YtejipahfodhmjaaGreat
open Go.RowKit Go.Maps
set_option linter.unusedVariables false
attribute [local go_sem ↓] Go.wp_at_zero Go.wp_at_succ

theorem all_len {ls : List (List En)} (h : ∀ es ∈ ls, Right es) : ∀ n, n ≤ ls.length → (allE (ls.take n)).length ≤ 12 * n
  | 0, _ => by simp [allE]
  | n + 1, hn => by
    have ih := all_len h n (by omega)
    have hL : ls[n]? = some (ls[n]'(by omega)) := List.getElem?_eq_getElem (by omega)
    have hm := (h _ (List.mem_of_getElem? hL)).len
    generalize ls[n]'(by omega) = L at *
    have ht : ls.take (n + 1) = ls.take n ++ [L] := by rw [List.take_add_one, hL]; rfl
    rw [ht, allE_snoc]
    have := merge_len L (allE (ls.take n))
    omega
def pthL (ls : List (List En)) : List Bs := if layersP ls = 0 then (allE ls).map En.path else []

end Go.Proofs.YtejipahfodhmjaaGreat

namespace Go.Proofs.YtejipahfodhmjaaGreat
open Go.RowKit Go.Maps
set_option linter.unusedVariables false

def digFault (zs : List Int) (i : Nat) : Option Int := if 0 ≤ zs.getD i 0 ∧ zs.getD i 0 ≤ 4294967295 then none else some 3
def asked (zs : List Int) : Int := if 3 < zs.length then 2 else firstBad (digFault zs) 0 zs.length
theorem asked_zero {zs : List Int} (h : asked zs = 0) : zs.length ≤ 3 ∧ ∀ i, i < zs.length → 0 ≤ zs.getD i 0 ∧ zs.getD i 0 ≤ 4294967295 := by
  unfold asked at h
  split at h
  · omega
  · refine ⟨by omega, fun i hi => ?_⟩
    have := firstBad_none (f := digFault zs) (fun j c hc => by unfold digFault at hc; split at hc <;> simp at hc; omega) _ _ h i (Nat.zero_le _) (by omega)
    unfold digFault at this
    split at this
    · assumption
    · cases this
def both (F : Int) (zs : List Int) : Int := if F = 0 then asked zs else F
theorem digFault_ok {zs : List Int} {k : Nat} {z : Int} (hz : zs.getD k 0 = z) (h0 : 0 ≤ z) (h1 : z ≤ 4294967295) : digFault zs k = none := by unfold digFault; rw [hz, if_pos ⟨h0, h1⟩]
theorem digFault_no {zs : List Int} {k : Nat} {z : Int} (hz : zs.getD k 0 = z) (h : ¬ (0 ≤ z ∧ z ≤ 4294967295)) : digFault zs k = some 3 := by unfold digFault; rw [hz, if_neg h]

set_option maxRecDepth 100000 in
set_option maxHeartbeats 800000 in
theorem l2Digests_any (a : Option Addr) (c : Nat) (zs : List Int) (w : World) (h : Reads .i64 w a zs) (hl : zs.length ≤ 1048576) :
    Calls Tryz.prog 125 #[.slice a zs.length c] w fun e w' => e = .returned (.int .i64 (asked zs)) ∧ w' = w := by
  by_cases hbig : 3 < zs.length
  · have hb : (3 : Int) < (zs.length : Int) := by omega
    have hf : asked zs = 2 := by simp [asked, hbig]
    rw [hf]
    go_enter Tryz.func125, Tryz.ntmps125
    go_wp2
    go_ret
    exact ⟨rfl, rfl⟩
  · have hb : ¬ (3 : Int) < (zs.length : Int) := by omega
    have HF : Hid (asked zs = firstBad (digFault zs) 0 (zs.length - 0)) := by simp [asked, hbig, Hid]
    generalize hfl : asked zs = F at HF ⊢
    clear hfl
    have HA := hide h
    clear h
    go_enter Tryz.func125, Tryz.ntmps125
    go_wp2
    go_loop [3] (fun i => ∃ k : Nat, k ≤ zs.length ∧ i = .int .i64 k ∧ F = firstBad (digFault zs) k (zs.length - k)) (fun i => zs.length - (intOf i).toNat)
    case atStart => exact ⟨0, Nat.zero_le _, rfl, HF.out⟩
    case round =>
      obtain ⟨k, hk, rfl, hF⟩ := hrel
      have HF := hide hF
      clear hF
      by_cases hlt : k < zs.length
      · obtain ⟨b, off, rfl, hb1, hc⟩ := HA.out (by intro e; simp [e] at hlt)
        have hc1 := hc k hlt
        generalize hz : zs.getD k 0 = z at hc1
        have HZ := hide hz
        clear hz hc
        by_cases c1 : 0 ≤ z
        · by_cases c2 : z ≤ 4294967295
          · go_wp2
            go_round
            case rel => exact ⟨k + 1, by omega, by go_num, by rw [HF.out]; exact firstBad_miss hlt (digFault_ok HZ.out c1 c2)⟩
            case measure => simp [intOf]; omega
          · go_wp2
            go_ret
            exact ⟨ret_int (by rw [HF.out]; exact (firstBad_hit hlt (digFault_no HZ.out (by omega))).symm), rfl⟩
        · go_wp2
          go_ret
          exact ⟨ret_int (by rw [HF.out]; exact (firstBad_hit hlt (digFault_no HZ.out (by omega))).symm), rfl⟩
      · go_wp2
        go_ret
        exact ⟨ret_int (by rw [HF.out]; exact (firstBad_end (by omega)).symm), rfl⟩

set_option maxRecDepth 100000 in
set_option maxHeartbeats 800000 in
theorem l2Both_any (a : Option Addr) (c n : Nat) (D : Nat → Int) (P : Nat → List Int) (a2 : Option Addr) (c2 : Nat) (zs : List Int) (w : World) (h : RdC w a D P n) (hn : n ≤ 1048576) (hP : ∀ i, i < n → U8 (P i) ∧ (P i).length ≤ 1048576) (h2 : Reads .i64 w a2 zs) (hl : zs.length ≤ 1048576) :
    Calls Tryz.prog 85 #[.slice a n c, .slice a2 zs.length c2] w fun e w' => e = .returned (.int .i64 (both (fault D P n) zs)) ∧ Below w.heap.size w w' := by
  have HC := hide (specFault_any a c n D P w h hn hP)
  have HR := hide h2
  generalize fault D P n = F at *
  clear h hP h2
  by_cases hF : F = 0
  · subst hF
    go_enter Tryz.func85, Tryz.ntmps85
    go_wp2_with fail
    refine HC.out.mono ?_
    rintro e w1 ⟨rfl, b1⟩
    have B1 := hide b1
    clear b1
    go_wp2_with fail
    refine (l2Digests_any a2 c2 zs w1 (HR.out.below B1.out) hl).mono ?_
    rintro e w2 ⟨rfl, rfl⟩
    generalize hG : asked zs = G
    have HG := hide hG
    clear hG
    go_wp2_with fail
    go_ret
    exact ⟨ret_int (by unfold both; rw [if_pos rfl, HG.out]), B1.out⟩
  · have hne : (F != 0) = true := by simpa using hF
    go_enter Tryz.func85, Tryz.ntmps85
    go_wp2_with fail
    refine HC.out.mono ?_
    rintro e w1 ⟨rfl, b1⟩
    have B1 := hide b1
    clear b1
    go_wp2_with fail
    go_ret
    exact ⟨ret_int (by unfold both; rw [if_neg hF]), B1.out⟩

end Go.Proofs.YtejipahfodhmjaaGreat

namespace Go.Proofs.YtejipahfodhmjaaGreat
open Go.RowKit Go.Maps
set_option linter.unusedVariables false

theorem both_zero {F : Int} {zs : List Int} (h : both F zs = 0) : F = 0 ∧ asked zs = 0 := by
  unfold both at h
  split at h
  · rename_i e; exact ⟨e, h⟩
  · rename_i e; exact absurd h e


end Go.Proofs.YtejipahfodhmjaaGreat

