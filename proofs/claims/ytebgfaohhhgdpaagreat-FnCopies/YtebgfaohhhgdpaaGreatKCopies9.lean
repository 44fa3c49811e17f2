/-
  Texts put together: OvrM SeeC SeeE SeeF SeeG SeeH SeeI LayT IteR OvrP.
-/
import Derived.Test.YtebgfaohhhgdpaaGreatKCopies8
import Derived.Test.YtebgfaohhhgdpaaGreatKCopies4
import Derived.Test.YtebgfaohhhgdpaaGreatKCopies6
import Derived.Test.YtebgfaohhhgdpaaGreatKCopies5
import Derived.Shelf.SlMaps.Clone
import Derived.Lib.SlMapFilter
import Derived.RangeFuncGives
import Derived.Shelf.AbstractIn
import Derived.RangeFuncSeq
import Derived.Sort.MapsRangeIn
import Derived.OwnWalkIn
import Derived.TacticsInMore
import Derived.RegionIn
import Derived.LoopNIn
import Derived.LoopIn
import Derived.Maps.AppendAt
import Derived.Shelf.Abstract
import Derived.Shelf.SlIter.Collect
import Derived.Shelf.SlSortCmp.WholeK
import Derived.Shelf.Small.Bits
import Derived.Ground.SlsfProg
import Derived.Test.YtebgfaohhhgdpaaGreatProg
import Derived.Test.YtebgfaohhhgdpaaGreatKCopies7
namespace Go.Proofs.YtebgfaohhhgdpaaGreat
open Go.RowKit Go.Maps
set_option linter.unusedVariables false
attribute [local go_sem ↓] Go.wp_at_zero Go.wp_at_succ

theorem find_at_none {es : List En} {p : Bs} (h : atE es p = none) : findE es p = none := by rw [atE_find, h]; rfl
theorem find_at_some {es : List En} {p : Bs} {k : Nat} (h : atE es p = some k) : ∃ e, es[k]? = some e ∧ findE es p = some e := by
  have hk := atE_lt h
  obtain ⟨e, he⟩ : ∃ e, es[k]? = some e := ⟨_, List.getElem?_eq_getElem hk⟩
  exact ⟨e, he, by rw [atE_find, h]; exact he⟩
theorem above_small {p : Bs} (hp : faultP p = 0) : ∀ u ∈ above p, u.length ≤ p.length := by
  intro u hu
  have hb : isBelow p u = true := by simpa [isBelow] using hu
  rw [isBelow_good hp] at hb
  have := below_len (of_decide_eq_true hb).2
  omega
set_option maxRecDepth 100000 in
set_option maxHeartbeats 6400000 in
theorem l8Over_any (a : Option Addr) (c n : Nat) (es : List En) (p : Bs) (w : World) (h : RdE w a es) (hn : n = es.length) (hl : es.length ≤ 1048576) (hp : faultP p = 0) (hpl : p.length ≤ 1048576) :
    Calls Tryz.prog 159 #[.slice a n c, .string (str p)] w fun r w' => r = .returned (.int .i64 (overN es (above p))) ∧ Below w.heap.size w w' := by
  subst hn
  have HR := hide h
  have hsz := str_size p
  have h1 : 1 ≤ (str p).size := faultP_pos (by rw [str_data]; exact hp)
  have HU := hide (show aboveN (cutB (str p).data.toList.tail) = above p from by rw [str_data, above_good hp])
  have HUl := hide (above_len p)
  clear h hp
  generalize above p = ups at *
  go_enter Tryz.func159, Tryz.ntmps159
  go_wp2_with fail
  refine (l3Above_any (str p) _ h1 (by omega)).mono ?_
  rintro r w1 ⟨v, rfl, ho, hb1⟩
  rw [HU.out] at ho
  obtain ⟨av, cv, rfl⟩ := ownsRow_shape ho
  have RU := hide (OwnS.reads ho)
  have B1 := hide hb1
  clear ho hb1 HU
  go_wp2_with fail
  go_loopw [5, 7] (fun v i wr => ∃ k : Nat, k ≤ ups.length ∧ v = .int .i64 (overN es (ups.take k)) ∧ i = .int .i64 k ∧ Hid (overN es (ups.take k) ≠ 2) ∧ Hid (Below w1.heap.size w1 wr)) (fun _ i _ => ups.length - (intOf i).toNat)
  case atStart => exact ⟨0, Nat.zero_le _, rfl, rfl, hide (by simp [overN]), hide (Below.refl _ _)⟩
  case round =>
    obtain ⟨k, hk, rfl, rfl, HN2, HW⟩ := hrel
    have hul := HUl.out
    by_cases hlt : k < ups.length
    · obtain ⟨b, off, rfl, hb, hc⟩ := (RU.out.below HW.out) (by intro e; simp [e] at hlt)
      have q0 := hc k hlt
      have hx : ups[k]? = some (ups.getD k []) := by rw [List.getD_eq_getElem?_getD, List.getElem?_eq_getElem hlt]; rfl
      clear hc
      generalize ups.getD k [] = u at *
      have HX := hide hx
      clear hx
      have HE := hide ((HR.out.below B1.out).below HW.out)
      have HAT := hide (l4At_any a c es.length es u wr HE.out rfl hl)
      cases ha : atE es u with
      | none =>
        have HZ := hide (over_take HX.out HN2.out (by rw [rank_none (find_at_none ha)]; decide))
        have HZ2 := hide (over_take_ne HX.out HN2.out (by rw [rank_none (find_at_none ha)]; decide))
        rw [rank_none (find_at_none ha)] at HZ
        rw [ha] at HAT
        have e1 : placeI none = -1 := rfl
        rw [e1] at HAT
        clear ha e1
        go_wp2_with fail
        refine HAT.out.mono ?_
        rintro r w2 ⟨rfl, rfl⟩
        clear q0
        go_wp2_with fail
        go_roundw
        case rel => exact ⟨k + 1, by omega, by rw [HZ.out]; rfl, by go_num, HZ2, HW⟩
        case measure => simp [intOf]; omega
      | some m =>
        obtain ⟨e, he, hf⟩ := find_at_some ha
        have hm := atE_lt ha
        rw [ha] at HAT
        have e1 : placeI (some m) = (m : Int) := rfl
        rw [e1] at HAT
        obtain ⟨bb, off2, e', x, cc, rfl, hb2, he', c0, c1, c2, c3, hr⟩ := HE.out.at hm
        have : e' = e := Option.some.inj (he'.symm.trans he)
        subst this
        have hk0 : ¬ (m : Int) < 0 := by omega
        have hk2 : (0 : Int) ≤ (m : Int) := by omega
        have hk1 : (m : Int) < (es.length : Int) := by omega
        clear ha e1 he he' hr c0 c2 c3
        by_cases h3 : e'.kind = 3
        · have HZ := hide (over_take_two HX.out (rank_two hf (Or.inl h3)))
          have h3' : (e'.kind == 3) = true := by simpa using h3
          clear h3 hf
          go_wp2_with fail
          refine HAT.out.mono ?_
          rintro r w2 ⟨rfl, rfl⟩
          go_wp2_with fail
          go_ret
          exact ⟨by rw [HZ.out]; rfl, below_next B1.out HW.out⟩
        · have h3' : (e'.kind == 3) = false := by simpa using h3
          by_cases h1k : e'.kind = 1
          · have HZ := hide (over_take_two HX.out (rank_two hf (Or.inr h1k)))
            have h1' : (e'.kind == 1) = true := by simpa using h1k
            clear h3 h1k hf
            go_wp2_with fail
            refine HAT.out.mono ?_
            rintro r w2 ⟨rfl, rfl⟩
            go_wp2_with fail
            go_ret
            exact ⟨by rw [HZ.out]; rfl, below_next B1.out HW.out⟩
          · have h1' : (e'.kind == 1) = false := by simpa using h1k
            by_cases h4 : e'.kind = 4
            · have hrk := rank_one hf h4
              have HZ := hide (over_take HX.out HN2.out (by rw [hrk]; decide))
              have HZ2 := hide (over_take_ne HX.out HN2.out (by rw [hrk]; decide))
              rw [hrk] at HZ
              have h4' : (e'.kind == 4) = true := by simpa using h4
              clear h3 h1k h4 hf hrk
              go_wp2_with fail
              refine HAT.out.mono ?_
              rintro r w2 ⟨rfl, rfl⟩
              go_wp2_with fail
              go_roundw
              case rel => exact ⟨k + 1, by omega, by rw [HZ.out]; rfl, by go_num, HZ2, HW⟩
              case measure => simp [intOf]; omega
            · have h4' : (e'.kind == 4) = false := by simpa using h4
              have hrk := rank_dir hf h1k h3 h4
              have HZ := hide (over_take HX.out HN2.out (by rw [hrk]; decide))
              have HZ2 := hide (over_take_ne HX.out HN2.out (by rw [hrk]; decide))
              rw [hrk] at HZ
              clear h3 h1k h4 hf hrk
              go_wp2_with fail
              refine HAT.out.mono ?_
              rintro r w2 ⟨rfl, rfl⟩
              go_wp2_with fail
              go_roundw
              case rel => exact ⟨k + 1, by omega, by rw [HZ.out]; rfl, by go_num, HZ2, HW⟩
              case measure => simp [intOf]; omega
    · have HE := hide (show ups.take k = ups from List.take_of_length_le (by omega))
      go_wp2_with fail
      go_ret
      exact ⟨by rw [HE.out]; rfl, below_next B1.out HW.out⟩
end Go.Proofs.YtebgfaohhhgdpaaGreat

namespace Go.Proofs.YtebgfaohhhgdpaaGreat
open Go.RowKit Go.Maps
set_option linter.unusedVariables false
attribute [local go_sem ↓] Go.wp_at_zero Go.wp_at_succ

set_option maxRecDepth 100000 in
set_option maxHeartbeats 1600000 in
theorem hides_any (b N i : Nat) (p : Bs) (S : Nat → Bs → Option En) (w0 w : World) (h : SeeM w0 w b N S) (hi : i ≤ 100) (hp : p.length ≤ 1048576) :
    Calls Tryz.prog 180 #[.map (some b), .int .i64 i, .string (str p)] w fun r w' => r = .returned (.bool ((S i p).any fun e => !decide (e.kind = 2))) ∧ Below w.heap.size w w' := by
  cases hS : S i p with
  | none =>
    have HL := hide (h.no hi hp hS)
    clear h hS
    go_enter Tryz.func180, Tryz.ntmps180
    go_wp2_with (at_lookup; refine wpList_lookS rfl _ _ 101 true rfl _ _ _ rfl rfl HL.out ?_)
    go_ret
    exact ⟨rfl, below_alloc _ _⟩
  | some e =>
    obtain ⟨x, cc, hl, -, -⟩ := h.yes hi hp hS
    have HL := hide hl
    clear h hS hl
    by_cases hk : e.kind = 2
    · have hk' : (e.kind == 2) = true := by simpa using hk
      have HV := hide (show ((some e).any fun e => !decide (e.kind = 2)) = (e.kind != 2) by simp [hk])
      clear hk hk'
      unfold itV at HL
      go_enter Tryz.func180, Tryz.ntmps180
      go_wp2_with (at_lookup; refine wpList_lookS rfl _ _ 101 true rfl _ _ _ rfl rfl HL.out ?_)
      go_ret
      exact ⟨ret_bool HV.out.symm, below_alloc _ _⟩
    · have hk' : (e.kind == 2) = false := by simpa using hk
      have HV := hide (show ((some e).any fun e => !decide (e.kind = 2)) = (e.kind != 2) by simp [hk])
      clear hk hk'
      unfold itV at HL
      go_enter Tryz.func180, Tryz.ntmps180
      go_wp2_with (at_lookup; refine wpList_lookS rfl _ _ 101 true rfl _ _ _ rfl rfl HL.out ?_)
      go_ret
      exact ⟨ret_bool HV.out.symm, below_alloc _ _⟩

/-- A closure that answers f of a text, in worlds that came of W0. -/
def AsksS (W0 : World) (fn : FuncId) (cap : Array Value) (f : Bs → Bool) : Prop :=
  (∀ args w, (callFunc fn args).run Tryz.prog w = .ok (.enter fn args) w) ∧ ∀ (s : Bs) (w : World), s.length ≤ 1048576 → Below W0.heap.size W0 w →
    Calls Tryz.prog fn (#[.string (str s)] ++ cap) w fun r w' => r = .returned (.bool (f s)) ∧ Below w.heap.size w w'

set_option maxRecDepth 100000 in
set_option maxHeartbeats 3200000 in
theorem indexFuncS_any (a : Option Addr) (c n : Nat) (ps : List Bs) (fn : FuncId) (cap : Array Value) (f : Bs → Bool) (w : World) (h : ReadsS w a ps) (hn : n = ps.length) (hl : ps.length ≤ 1048576) (hs : ∀ p ∈ ps, p.length ≤ 1048576) (hf : AsksS w fn cap f) :
    Calls Tryz.prog 208 #[.slice a n c, .func (.func fn) #[] cap] w fun r w' => ((∃ k : Nat, r = .returned (.int .i64 k) ∧ ps.any f = true) ∨ (r = .returned (.int .i64 (-1)) ∧ ps.any f = false)) ∧ Below w.heap.size w w' := by
  subst hn
  have eg := hf.1
  have HF := hide hf
  have HR := hide h
  have HS := hide hs
  clear h hf hs
  go_enter Tryz.func208, Tryz.ntmps208
  go_wp2_with fail
  go_loopw [8] (fun i wr => ∃ k : Nat, k ≤ ps.length ∧ i = .int .i64 k ∧ Hid (ps.any f = (ps.drop k).any f) ∧ Hid (Below w.heap.size w wr)) (fun i _ => ps.length - (intOf i).toNat)
  case atStart => exact ⟨0, Nat.zero_le _, rfl, hide (by simp), hide (Below.refl _ _)⟩
  case round =>
    obtain ⟨k, hk, rfl, HFi, HW⟩ := hrel
    by_cases hlt : k < ps.length
    · obtain ⟨b, off, rfl, hb, hc⟩ := (HR.out.below HW.out) (by intro e; simp [e] at hlt)
      have c0 := hc k hlt
      have hx : ps[k]? = some (ps.getD k []) := by rw [List.getD_eq_getElem?_getD, List.getElem?_eq_getElem hlt]; rfl
      have hd : ps.drop k = ps.getD k [] :: ps.drop (k + 1) := by
        rw [List.drop_eq_getElem_cons hlt]; congr 1; rw [List.getD_eq_getElem?_getD, List.getElem?_eq_getElem hlt]; rfl
      have hsm := HS.out _ (List.mem_of_getElem? hx)
      have HD := hide (HFi.out.trans (by rw [hd, List.any_cons]))
      clear hc hd hx
      generalize ps.getD k [] = q at *
      go_wp2_with fail
      refine (HF.out.2 q _ hsm HW.out).mono ?_
      rintro r w3 ⟨rfl, hb3⟩
      have B3 := hide (below_next HW.out hb3)
      clear hb3 c0
      cases hq : f q
      · have HN := hide (show ps.any f = (ps.drop (k + 1)).any f by rw [HD.out, hq, Bool.false_or])
        clear hq
        go_wp2_with fail
        go_roundw
        case rel => exact ⟨k + 1, by omega, by go_num, HN, B3⟩
        case measure => simp [intOf]; omega
      · have HN := hide (show ps.any f = true by rw [HD.out, hq, Bool.true_or])
        clear hq
        go_wp2_with fail
        go_ret
        exact ⟨.inl ⟨k, rfl, HN.out⟩, B3.out⟩
    · have HN := hide (show ps.any f = false by rw [HFi.out, List.drop_eq_nil_of_le (by omega)]; rfl)
      go_wp2_with fail
      go_ret
      exact ⟨.inr ⟨rfl, HN.out⟩, HW.out⟩
set_option maxRecDepth 100000 in
set_option maxHeartbeats 800000 in
theorem containsFuncS_any (a : Option Addr) (c n : Nat) (ps : List Bs) (fn : FuncId) (cap : Array Value) (f : Bs → Bool) (w : World) (h : ReadsS w a ps) (hn : n = ps.length) (hl : ps.length ≤ 1048576) (hs : ∀ p ∈ ps, p.length ≤ 1048576) (hf : AsksS w fn cap f) :
    Calls Tryz.prog 178 #[.slice a n c, .func (.func fn) #[] cap] w fun r w' => r = .returned (.bool (ps.any f)) ∧ Below w.heap.size w w' := by
  subst hn
  have HC := hide (indexFuncS_any a c ps.length ps fn cap f w h rfl hl hs hf)
  clear h hf hs
  go_enter Tryz.func178, Tryz.ntmps178
  go_wp2_with fail
  refine HC.out.mono ?_
  rintro r w1 ⟨(⟨k, rfl, hi⟩ | ⟨rfl, hi⟩), hb⟩
  · have hk0 : (0 : Int) ≤ (k : Int) := by omega
    have HI := hide hi
    have HB := hide hb
    clear hi hb HC
    go_wp2_with fail
    go_ret
    exact ⟨ret_bool HI.out.symm, HB.out⟩
  · have HI := hide hi
    have HB := hide hb
    clear hi hb HC
    go_wp2_with fail
    go_ret
    exact ⟨ret_bool HI.out.symm, HB.out⟩

set_option maxRecDepth 100000 in
set_option maxHeartbeats 800000 in
theorem hidesLit_any (b N i b1 b2 : Nat) (q : Bs) (S : Nat → Bs → Option En) (w0 w : World) (h : SeeM w0 w b N S) (hi : i ≤ 100) (hq : q.length ≤ 1048576) (h1 : w.cell? ⟨b1, 0, none⟩ = some (.map (some b))) (h2 : w.cell? ⟨b2, 0, none⟩ = some (.int .i64 i)) :
    Calls Tryz.prog 179 #[.string (str q), .pointer (some ⟨b1, 0, none⟩), .pointer (some ⟨b2, 0, none⟩)] w fun r w' => r = .returned (.bool ((S i q).any fun e => !decide (e.kind = 2))) ∧ Below w.heap.size w w' := by
  have HC := hide (hides_any b N i q S w0 w h hi hq)
  clear h
  go_enter Tryz.func179, Tryz.ntmps179
  go_wp2_with fail
  refine HC.out.mono ?_
  rintro r w1 ⟨rfl, hb⟩
  have HB := hide hb
  clear hb
  go_wp2_with fail
  go_ret
  exact ⟨rfl, HB.out⟩
set_option maxRecDepth 100000 in
set_option maxHeartbeats 1600000 in
theorem hidesAbove_any (b N i : Nat) (p : Bs) (S : Nat → Bs → Option En) (w0 w : World) (h : SeeM w0 w b N S) (hi : i ≤ 100) (hp : p.length ≤ 1048576) :
    Calls Tryz.prog 138 #[.map (some b), .int .i64 i, .string (str p)] w fun r w' => r = .returned (.bool ((above p).any fun q => (S i q).any fun e => !decide (e.kind = 2))) ∧ Below w.heap.size w w' := by
  have hmf : ∀ (fn : Fn) (first cap : Array Value) (w : World), (Instr.makeFunc fn first cap).run Tryz.prog w = .ok (.func fn first cap) w := fun _ _ _ _ => rfl
  have B0 := hide (below_next (below_alloc w (.cells #[.map (some b)] 101)) (below_alloc _ (.cells #[.int .i64 i] 3)))
  have HM := hide h
  clear h
  have hsz := str_size p
  go_enter Tryz.func138, Tryz.ntmps138
  go_wp2_with fail
  refine (implAboveOf_any (str p) _ (by omega)).mono ?_
  rintro r w1 ⟨av, cv, rfl, ho, hb⟩
  have B1 := hide (below_next B0.out hb)
  have RS := hide (OwnS.reads ho)
  have HM1 := hide (HM.out.below B1.out)
  have q1 : w1.cell? ⟨w.heap.size, 0, none⟩ = some (.map (some b)) := (hb.cell (p := ⟨w.heap.size, 0, none⟩) (by simp; omega)).trans (by simp)
  have q2 : w1.cell? ⟨w.heap.size + 1, 0, none⟩ = some (.int .i64 i) := (hb.cell (p := ⟨w.heap.size + 1, 0, none⟩) (by simp)).trans (by simp)
  have hsm : ∀ u ∈ above p, u.length ≤ 1048576 := by
    intro u hu
    by_cases hpf : faultP p = 0
    · have := above_small hpf u hu; omega
    · rw [above_bad hpf] at hu; simp at hu
  have HQ : Hid (AsksS w1 179 #[.pointer (some ⟨w.heap.size, 0, none⟩), .pointer (some ⟨w.heap.size + 1, 0, none⟩)] (fun q => (S i q).any fun e => !decide (e.kind = 2))) :=
    hide ⟨enters_of Tryz.func179 (by kernel_rfl) rfl, fun q w' hq hb' => hidesLit_any b N i w.heap.size (w.heap.size + 1) q S w0 w' (HM1.out.below hb') hi hq ((hb'.cell (p := ⟨w.heap.size, 0, none⟩) (World.block_lt_of_cell? w1 _ q1)).trans q1) ((hb'.cell (p := ⟨w.heap.size + 1, 0, none⟩) (World.block_lt_of_cell? w1 _ q2)).trans q2)⟩
  have HSD := hide (str_data p)
  rw [HSD.out] at RS ⊢
  have hal := above_len p
  have HCF := hide (containsFuncS_any av cv (above p).length (above p) _ _ _ w1 RS.out rfl (by omega) hsm HQ.out)
  clear ho hb q1 q2 hsm
  have hfield : ∀ (c v : Value) (w : World), (Instr.field 85 (.agg #[c, v]) 1).run Tryz.prog w = .ok v w := fun c v w => by kernel_rfl
  go_wp2_with fail
  refine HCF.out.mono ?_
  rintro r w2 ⟨rfl, hb2⟩
  have B2 := hide (below_next B1.out hb2)
  clear hb2
  go_wp2_with fail
  go_ret
  exact ⟨rfl, B2.out⟩
end Go.Proofs.YtebgfaohhhgdpaaGreat

namespace Go.Proofs.YtebgfaohhhgdpaaGreat
open Go.RowKit Go.Maps
set_option linter.unusedVariables false
attribute [local go_sem ↓] Go.wp_at_zero Go.wp_at_succ

/-- The fault of layers, one by one. -/
def lsFrom : List (List En) → Int
  | [] => 0
  | es :: r => if layFaultP es = 0 then lsFrom r else layFaultP es
def layersP (ls : List (List En)) : Int := if 4 < ls.length then 2 else lsFrom ls
theorem lsFrom_zero : ∀ {ls : List (List En)}, lsFrom ls = 0 ↔ ∀ es ∈ ls, Right es
  | [] => by simp [lsFrom]
  | es :: r => by
    have ih := lsFrom_zero (ls := r)
    unfold lsFrom
    by_cases h : layFaultP es = 0
    · rw [if_pos h, ih]
      simp [right_P.1 h]
    · rw [if_neg h]
      constructor
      · intro h2; exact absurd h2 h
      · intro h2; exact absurd (right_P.2 (h2 es (by simp))) h
theorem layersP_zero {ls : List (List En)} : layersP ls = 0 ↔ ls.length ≤ 4 ∧ ∀ es ∈ ls, Right es := by
  unfold layersP
  by_cases h : 4 < ls.length
  · rw [if_pos h]; constructor
    · intro h2; cases h2
    · intro h2; omega
  · rw [if_neg h, lsFrom_zero]; constructor
    · intro h2; exact ⟨by omega, h2⟩
    · intro h2; exact h2.2
theorem lsFrom_bad {ls : List (List En)} {k : Nat} {es : List En} (he : ls[k]? = some es) (hf : layFaultP es ≠ 0) : lsFrom (ls.drop k) = layFaultP es := by
  obtain ⟨hk, hx⟩ := List.getElem?_eq_some_iff.1 he
  rw [List.drop_eq_getElem_cons hk, hx]
  simp [lsFrom, hf]
theorem lsFrom_next {ls : List (List En)} {k : Nat} {es : List En} (he : ls[k]? = some es) (hf : layFaultP es = 0) : lsFrom (ls.drop k) = lsFrom (ls.drop (k + 1)) := by
  obtain ⟨hk, hx⟩ := List.getElem?_eq_some_iff.1 he
  rw [List.drop_eq_getElem_cons hk, hx]
  simp [lsFrom, hf]
/-- Layers that are not too great for the walks. -/
def SmallL (ls : List (List En)) : Prop := ∀ es ∈ ls, es.length ≤ 1000000 ∧ SmallE es

set_option maxRecDepth 100000 in
set_option maxHeartbeats 3200000 in
theorem implLayersFault_any (a : Option Addr) (c n : Nat) (ls : List (List En)) (w : World) (h : RdL w a ls) (hn : n = ls.length) (hl : ls.length ≤ 1048576) (hs : SmallL ls) :
    Calls Tryz.prog 74 #[.slice a n c] w fun r w' => r = .returned (.int .i64 (layersP ls)) ∧ Below w.heap.size w w' := by
  subst hn
  have HR := hide h
  have HS := hide hs
  clear h hs
  by_cases h4 : 4 < ls.length
  · have HZ := hide (show layersP ls = 2 by simp [layersP, h4])
    have h4' : (4 : Int) < (ls.length : Int) := by omega
    go_enter Tryz.func74, Tryz.ntmps74
    go_wp2_with fail
    go_ret
    exact ⟨by rw [HZ.out]; rfl, Below.refl _ _⟩
  · have HZ := hide (show layersP ls = lsFrom (ls.drop 0) by simp [layersP, h4])
    have h4' : ¬ (4 : Int) < (ls.length : Int) := by omega
    clear h4
    generalize layersP ls = V at *
    go_enter Tryz.func74, Tryz.ntmps74
    go_wp2_with fail
    go_loopw [11] (fun i wr => ∃ k : Nat, k ≤ ls.length ∧ i = .int .i64 k ∧ Hid (V = lsFrom (ls.drop k)) ∧ Hid (Below w.heap.size w wr)) (fun i _ => ls.length - (intOf i).toNat)
    case atStart => exact ⟨0, Nat.zero_le _, rfl, HZ, hide (Below.refl _ _)⟩
    case round =>
      obtain ⟨k, hk, rfl, HV, HW⟩ := hrel
      by_cases hlt : k < ls.length
      · obtain ⟨b, off, es, x, cc, rfl, hb, he, c0, hr⟩ := (HR.out.below HW.out).at hlt
        obtain ⟨hel, hsm⟩ := HS.out es (List.mem_of_getElem? he)
        have HLF := hide (implLayerFault_any x cc es.length es wr hr rfl (by omega) hsm)
        have HX := hide he
        clear he hr hsm
        by_cases hf : layFaultP es = 0
        · have HN := hide (HV.out.trans (lsFrom_next HX.out hf))
          rw [hf] at HLF
          clear hf
          go_wp2_with fail
          refine HLF.out.mono ?_
          rintro r w1 ⟨rfl, hb1⟩
          have B1 := hide (below_next HW.out hb1)
          clear hb1 c0
          go_wp2_with fail
          go_roundw
          case rel => exact ⟨k + 1, by omega, by go_num, HN, B1⟩
          case measure => simp [intOf]; omega
        · have HN := hide (HV.out.trans (lsFrom_bad HX.out hf))
          generalize layFaultP es = F at *
          have hf2 : (F != 0) = true := by simp; exact hf
          clear hf
          go_wp2_with fail
          refine HLF.out.mono ?_
          rintro r w1 ⟨rfl, hb1⟩
          have B1 := hide (below_next HW.out hb1)
          clear hb1 c0
          go_wp2_with fail
          go_ret
          exact ⟨by rw [HN.out]; rfl, B1.out⟩
      · have HN := hide (show V = 0 by rw [HV.out, List.drop_eq_nil_of_le (by omega)]; rfl)
        go_wp2_with fail
        go_ret
        exact ⟨by rw [HN.out]; rfl, HW.out⟩
/-- Which of the n lowest layers' entry is seen. -/
def seenG (S : Nat → Bs → Option En) (p : Bs) : Nat → Option Nat
  | 0 => none
  | n + 1 => match S n p with
    | some e => if e.kind = 3 then none else some n
    | none => if (above p).any (fun q => (S n q).any fun e => !decide (e.kind = 2)) then none else seenG S p n
theorem seen_hit {S : Nat → Bs → Option En} {p : Bs} {n : Nat} {e : En} (h : S n p = some e) : seenG S p (n + 1) = if e.kind = 3 then none else some n := by simp [seenG, h]
theorem seen_hid {S : Nat → Bs → Option En} {p : Bs} {n : Nat} (h : S n p = none) (hh : ((above p).any fun q => (S n q).any fun e => !decide (e.kind = 2)) = true) : seenG S p (n + 1) = none := by simp [seenG, h, hh]
theorem seen_down {S : Nat → Bs → Option En} {p : Bs} {n : Nat} (h : S n p = none) (hh : ((above p).any fun q => (S n q).any fun e => !decide (e.kind = 2)) = false) : seenG S p (n + 1) = seenG S p n := by simp [seenG, h, hh]
/-- What seenAt answers. -/
def ResW (o : Option Nat) (p : Bs) (w : World) (r : Ending) (w' : World) : Prop :=
  (match o with
    | some n => r = .returned (.tuple #[spotV n p, .bool true])
    | none => ∃ v s, r = .returned (.tuple #[.agg #[.int .i64 v, .string s], .bool false])) ∧ Below w.heap.size w w'
end Go.Proofs.YtebgfaohhhgdpaaGreat

namespace Go.Proofs.YtebgfaohhhgdpaaGreat
open Go.RowKit Go.Maps
set_option linter.unusedVariables false
attribute [local go_sem ↓] Go.wp_at_zero Go.wp_at_succ

set_option maxRecDepth 100000 in
set_option maxHeartbeats 6400000 in
theorem seenAt_any (b N : Nat) (p : Bs) (S : Nat → Bs → Option En) (w0 w : World) (h : SeeM w0 w b N S) (hp : p.length ≤ 1048576) :
    Calls Tryz.prog 85 #[.map (some b), .string (str p)] w (ResW (seenG S p 4) p w) := by
  have X0 := hide (Box.new w (.int .i64 0) (.string ⟨#[]⟩) 104)
  have B0 := hide (below_alloc w (.cells #[.int .i64 0, .string ⟨#[]⟩] 104))
  have M0 := hide (h.below B0.out)
  clear h
  go_enter Tryz.func85, Tryz.ntmps85
  go_wp2_with fail
  generalize w.alloc (.cells #[.int .i64 0, .string ⟨#[]⟩] 104) = W0 at *
  go_loopw [6] (fun i wr => ∃ n : Nat, n ≤ 4 ∧ i = .int .i64 ((n : Int) - 1) ∧ Hid (seenG S p 4 = seenG S p n) ∧ Hid (Below W0.heap.size W0 wr)) (fun i _ => (intOf i + 1).toNat)
  case atStart => exact ⟨4, Nat.le_refl _, rfl, hide rfl, hide (Below.refl _ _)⟩
  case round =>
    obtain ⟨n, hn, hi, HV, HW⟩ := hrel
    cases n with
    | zero =>
      rw [show ((0 : Nat) : Int) - 1 = -1 from rfl] at hi
      subst hi
      have HN := hide (show seenG S p 4 = none from HV.out)
      obtain ⟨⟨t0, t1⟩, t2, t3⟩ := X0.out.below HW.out
      clear HV
      go_wp2_with fail
      refine bodyPost_ret (v := .tuple #[.agg #[.int .i64 0, .string ⟨#[]⟩], .bool false]) (by simp [results, Tryz.results85, go_sem, t0, t1]) rfl ?_
      rw [HN.out]
      exact ⟨⟨0, ⟨#[]⟩, rfl⟩, ((below_next B0.out HW.out).setCell (p := ⟨w.heap.size, 0, none⟩) (Nat.le_refl _) _).setCell (p := ⟨w.heap.size, 1, none⟩) (Nat.le_refl _) _⟩
    | succ m =>
      rw [show ((m + 1 : Nat) : Int) - 1 = (m : Int) from by omega] at hi
      subst hi
      have hm0 : (0 : Int) ≤ (m : Int) := by omega
      have MW := hide (M0.out.below HW.out)
      have BS := hide (below_alloc wr (.cells #[.int .i64 m, .string (str p)] 104))
      have MS := hide (MW.out.below BS.out)
      cases hS : S m p with
      | none =>
        have HL := hide (MS.out.no (i := m) (p := p) (by omega) hp hS)
        have BI := hide (below_next BS.out (below_alloc _ (.cells #[.int .i64 0, .slice none 0 0, .string ⟨#[]⟩, .int .i64 0] 66)))
        have HHA := hide (hidesAbove_any b N m p S w0 _ (MW.out.below BI.out) (by omega) hp)
        have hm1 : IntKind.i64.wrap ((m : Int) - 1) = (m : Int) - 1 := by simp [IntKind.wrap, IntKind.signed, IntKind.bits]; omega
        cases hh : (above p).any fun q => (S m q).any fun e => !decide (e.kind = 2)
        · have HN := hide (HV.out.trans (seen_down hS hh))
          rw [hh] at HHA
          clear hh hS
          go_wp2_with (at_lookup; refine wpList_lookS rfl _ _ 101 true rfl _ _ _ rfl rfl HL.out ?_)
          refine HHA.out.mono ?_
          rintro r w2 ⟨rfl, hb2⟩
          have B2 := hide (below_next (below_next HW.out BI.out) hb2)
          clear hb2
          go_wp2_with fail
          go_roundw
          case rel => exact ⟨m, by omega, by first | rfl | go_num, HN, B2⟩
          case measure => simp [intOf] <;> omega
        · have HN := hide (HV.out.trans (seen_hid hS hh))
          rw [hh] at HHA
          clear hh hS
          go_wp2_with (at_lookup; refine wpList_lookS rfl _ _ 101 true rfl _ _ _ rfl rfl HL.out ?_)
          refine HHA.out.mono ?_
          rintro r w2 ⟨rfl, hb2⟩
          have B2 := hide (below_next (below_next HW.out BI.out) hb2)
          obtain ⟨⟨t0, t1⟩, t2, t3⟩ := X0.out.below B2.out
          clear hb2
          go_wp2_with fail
          refine bodyPost_ret (v := .tuple #[.agg #[.int .i64 0, .string ⟨#[]⟩], .bool false]) (by simp [results, Tryz.results85, go_sem, t0, t1]) rfl ?_
          rw [HN.out]
          exact ⟨⟨0, ⟨#[]⟩, rfl⟩, ((below_next B0.out B2.out).setCell (p := ⟨w.heap.size, 0, none⟩) (Nat.le_refl _) _).setCell (p := ⟨w.heap.size, 1, none⟩) (Nat.le_refl _) _⟩
      | some e =>
        obtain ⟨x, cc, hl, -, -⟩ := MS.out.yes (i := m) (p := p) (by omega) hp hS
        have HL := hide hl
        have HN := hide (HV.out.trans (seen_hit hS))
        unfold itV at HL
        clear hl hS
        have BI := hide (below_next BS.out (below_alloc _ (.cells #[.int .i64 e.size, .slice x e.chunks.length cc, .string (str e.path), .int .i64 e.kind] 66)))
        have B2 := hide (below_next B0.out (below_next HW.out BI.out))
        obtain ⟨⟨t0, t1⟩, t2, t3⟩ := (X0.out.below HW.out).below BI.out
        by_cases hk : e.kind = 3
        · rw [if_pos hk] at HN
          have hk' : (e.kind != 3) = false := by simp [hk]
          clear hk
          go_wp2_with (at_lookup; refine wpList_lookS rfl _ _ 101 true rfl _ _ _ rfl rfl HL.out ?_)
          go_region
          all_goals
            go_wp2_with fail
            refine bodyPost_ret (v := .tuple #[.agg #[.int .i64 m, .string (str p)], .bool false]) (by simp [results, Tryz.results85, go_sem, t0, t1]) rfl ?_
            rw [HN.out]
            exact ⟨⟨m, str p, rfl⟩, (B2.out.drew.setCell (p := ⟨w.heap.size, 0, none⟩) (Nat.le_refl _) _).setCell (p := ⟨w.heap.size, 1, none⟩) (Nat.le_refl _) _⟩
        · rw [if_neg hk] at HN
          have hk' : (e.kind != 3) = true := by simpa using hk
          clear hk
          go_wp2_with (at_lookup; refine wpList_lookS rfl _ _ 101 true rfl _ _ _ rfl rfl HL.out ?_)
          go_region
          all_goals
            go_wp2_with fail
            refine bodyPost_ret (v := .tuple #[.agg #[.int .i64 m, .string (str p)], .bool true]) (by simp [results, Tryz.results85, go_sem, t0, t1]) rfl ?_
            rw [HN.out]
            exact ⟨rfl, (B2.out.drew.setCell (p := ⟨w.heap.size, 0, none⟩) (Nat.le_refl _) _).setCell (p := ⟨w.heap.size, 1, none⟩) (Nat.le_refl _) _⟩
end Go.Proofs.YtebgfaohhhgdpaaGreat

namespace Go.Proofs.YtebgfaohhhgdpaaGreat
open Go.RowKit Go.Maps
set_option linter.unusedVariables false
attribute [local go_sem ↓] Go.wp_at_zero Go.wp_at_succ

def askL (ls : List (List En)) (p : Bs) : Int := if layersP ls = 0 then faultP p else layersP ls
theorem askL_right {ls : List (List En)} {p : Bs} (h : askL ls p = 0) : ls.length ≤ 4 ∧ (∀ es ∈ ls, Right es) ∧ faultP p = 0 := by
  unfold askL at h
  split at h
  · rename_i h1
    exact ⟨(layersP_zero.1 h1).1, (layersP_zero.1 h1).2, h⟩
  · rename_i h1; exact absurd h h1
set_option maxRecDepth 100000 in
set_option maxHeartbeats 1600000 in
theorem implAskL_any (a : Option Addr) (c n : Nat) (ls : List (List En)) (p : Bs) (w : World) (h : RdL w a ls) (hn : n = ls.length) (hl : ls.length ≤ 1048576) (hs : SmallL ls) (hp : p.length ≤ 1048576) :
    Calls Tryz.prog 28 #[.slice a n c, .string (str p)] w fun r w' => r = .returned (.int .i64 (askL ls p)) ∧ Below w.heap.size w w' := by
  subst hn
  have hsz := str_size p
  have HLF := hide (implLayersFault_any a c ls.length ls w h rfl hl hs)
  have HPF : Hid (∀ w', Calls Tryz.prog 76 #[.string (str p)] w' fun e w2 => e = .returned (.int .i64 (faultP p)) ∧ Below w'.heap.size w' w2) := hide (fun w' => by have h1 := implPathFault_any (str p) w' (by omega); rw [str_data] at h1; exact h1)
  clear h hs
  by_cases hz : layersP ls = 0
  · have HZ := hide (show askL ls p = faultP p by simp [askL, hz])
    rw [hz] at HLF
    clear hz
    generalize askL ls p = V at *
    generalize faultP p = F at *
    go_enter Tryz.func28, Tryz.ntmps28
    go_wp2_with fail
    refine HLF.out.mono ?_
    rintro r w1 ⟨rfl, hb1⟩
    have B1 := hide hb1
    clear hb1
    go_wp2_with fail
    refine (HPF.out w1).mono ?_
    rintro r w2 ⟨rfl, hb2⟩
    have B2 := hide (below_next B1.out hb2)
    clear hb2
    go_wp2_with fail
    go_ret
    exact ⟨by rw [HZ.out]; rfl, B2.out⟩
  · have HZ := hide (show askL ls p = layersP ls by simp [askL, hz])
    generalize askL ls p = V at *
    generalize layersP ls = F at *
    have hz2 : (F != 0) = true := by simp; exact hz
    clear hz
    go_enter Tryz.func28, Tryz.ntmps28
    go_wp2_with fail
    refine HLF.out.mono ?_
    rintro r w1 ⟨rfl, hb1⟩
    have B1 := hide hb1
    clear hb1
    go_wp2_with fail
    go_ret
    exact ⟨by rw [HZ.out]; rfl, B1.out⟩
set_option maxRecDepth 100000 in
set_option maxHeartbeats 1600000 in
theorem ofTree_any (e : En) (x : Option Addr) (cc : Nat) (w : World) (hk : e.kind = 1 ∨ e.kind = 2 ∨ e.kind = 3 ∨ e.kind = 4) :
    Calls Tryz.prog 86 #[itV e x cc] w fun r w' => r = .returned (itV (asT e) x cc) ∧ Below w.heap.size w w' := by
  unfold itV
  have B0 := hide (below_next (below_alloc w (.cells #[.int .i64 e.size, .slice x e.chunks.length cc, .string (str e.path), .int .i64 e.kind] 66)) (below_alloc _ (.cells #[.int .i64 0, .slice none 0 0, .string ⟨#[]⟩, .int .i64 0] 66)))
  have F0 := hide ((Box4.new w (.int .i64 e.size) (.slice x e.chunks.length cc) (.string (str e.path)) (.int .i64 e.kind) 66).below (below_alloc _ (.cells #[.int .i64 0, .slice none 0 0, .string ⟨#[]⟩, .int .i64 0] 66)))
  have G0 := hide (Box4.new (w.alloc (.cells #[.int .i64 e.size, .slice x e.chunks.length cc, .string (str e.path), .int .i64 e.kind] 66)) (.int .i64 0) (.slice none 0 0) (.string ⟨#[]⟩) (.int .i64 0) 66)
  have hsz : (w.alloc (.cells #[.int .i64 e.size, .slice x e.chunks.length cc, .string (str e.path), .int .i64 e.kind] 66)).heap.size = w.heap.size + 1 := by simp
  rw [hsz] at G0
  have HT := hide (show dirK e.kind = true → asT e = { e with kind := 2 } from fun hd => by
    rcases hk with h | h | h | h <;> rw [h] at hd <;> simp [dirK] at hd
    · cases e; simp at h; subst h; simp [asT]
    · simp [asT, h, kindE])
  have HT2 := hide (show dirK e.kind = false → asT e = e from fun hd => by
    rcases hk with h | h | h | h <;> rw [h] at hd <;> simp [dirK] at hd
    · simp [asT, h]
    · simp [asT, h])
  clear hsz hk
  obtain ⟨⟨f0, f1, f2, f3⟩, -⟩ := F0.out
  go_enter Tryz.func86, Tryz.ntmps86
  go_wp2_with fail
  generalize (w.alloc (.cells #[.int .i64 e.size, .slice x e.chunks.length cc, .string (str e.path), .int .i64 e.kind] 66)).alloc (.cells #[.int .i64 0, .slice none 0 0, .string ⟨#[]⟩, .int .i64 0] 66) = W0 at *
  refine (isDir_any _ _ _ _ _ _ _).mono ?_
  rintro r w1 ⟨rfl, hb1⟩
  have B1 := hide (below_next B0.out hb1)
  clear f0 f1 f2 f3
  obtain ⟨⟨f0, f1, f2, f3⟩, ff⟩ := F0.out.below hb1
  obtain ⟨⟨g0, g1, g2, g3⟩, gf⟩ := G0.out.below hb1
  have ff3 := ff 3
  have gf0 := gf 0
  have gf1 := gf 1
  have gf2 := gf 2
  have gf3 := gf 3
  clear hb1 ff gf
  have BF := hide (show ∀ y0 y1 y2 y3 : Value, ∀ W : World, Below w.heap.size w W → Below w.heap.size w ((((W.setCell ⟨w.heap.size + 1, 0, none⟩ y0).setCell ⟨w.heap.size + 1, 1, none⟩ y1).setCell ⟨w.heap.size + 1, 2, none⟩ y2).setCell ⟨w.heap.size + 1, 3, none⟩ y3) from fun y0 y1 y2 y3 W hb => (((hb.setCell (p := ⟨w.heap.size + 1, 0, none⟩) (by simp) y0).setCell (p := ⟨w.heap.size + 1, 1, none⟩) (by simp) y1).setCell (p := ⟨w.heap.size + 1, 2, none⟩) (by simp) y2).setCell (p := ⟨w.heap.size + 1, 3, none⟩) (by simp) y3)
  cases hd : dirK e.kind
  · have HE := hide (HT2.out hd)
    clear hd HT HT2
    go_wp2_with fail
    refine bodyPost_ret (v := .agg #[.int .i64 e.size, .slice x e.chunks.length cc, .string (str e.path), .int .i64 e.kind]) (by simp [results, Tryz.results86, go_sem, g0, g1, g2, g3]) rfl ⟨by rw [HE.out], ?_⟩
    exact BF.out _ _ _ _ _ B1.out
  · have HE := hide (HT.out hd)
    clear hd HT HT2
    go_wp2_with fail
    refine bodyPost_ret (v := .agg #[.int .i64 e.size, .slice x e.chunks.length cc, .string (str e.path), .int .i64 2]) (by simp [results, Tryz.results86, go_sem, g0, g1, g2, g3]) rfl ⟨by rw [HE.out], ?_⟩
    exact BF.out _ _ _ _ _ (B1.out.setCell (p := ⟨w.heap.size, 3, none⟩) (Nat.le_refl _) _)
end Go.Proofs.YtebgfaohhhgdpaaGreat

namespace Go.Proofs.YtebgfaohhhgdpaaGreat
open Go.RowKit Go.Maps
set_option linter.unusedVariables false
attribute [local go_sem ↓] Go.wp_at_zero Go.wp_at_succ

/-- Which layer's entry is seen, of a list of layers. -/
def seenL (ls : List (List En)) (p : Bs) : Option Nat := seenG (seeL ls) p 4
theorem seen_some {S : Nat → Bs → Option En} {p : Bs} : ∀ {n k : Nat}, seenG S p n = some k → k < n ∧ ∃ e, S k p = some e ∧ e.kind ≠ 3
  | 0, k, h => by cases h
  | n + 1, k, h => by
    cases hS : S n p with
    | some e =>
      rw [seen_hit hS] at h
      by_cases hk : e.kind = 3
      · rw [if_pos hk] at h; cases h
      · rw [if_neg hk] at h
        cases h
        exact ⟨by omega, e, hS, hk⟩
    | none =>
      cases hh : (above p).any fun q => (S n q).any fun e => !decide (e.kind = 2)
      · rw [seen_down hS hh] at h
        obtain ⟨h1, h2⟩ := seen_some h
        exact ⟨by omega, h2⟩
      · rw [seen_hid hS hh] at h; cases h
def plcC (ls : List (List En)) (p : Bs) : Int := if askL ls p = 0 then (if (seenL ls p).isSome then 0 else 4) else askL ls p
def plcV (ls : List (List En)) (p : Bs) : Int := if askL ls p = 0 then (match seenL ls p with | some n => (n : Int) | none => 0) else 0
def lookL (ls : List (List En)) (p : Bs) : List En := if askL ls p = 0 then (match seenL ls p with | some n => ((seeL ls n p).map asT).toList | none => []) else []
theorem plc_bad {ls : List (List En)} {p : Bs} (h : askL ls p ≠ 0) : plcC ls p = askL ls p ∧ plcV ls p = 0 ∧ lookL ls p = [] := by simp [plcC, plcV, lookL, h]
theorem plc_none {ls : List (List En)} {p : Bs} (h : askL ls p = 0) (hn : seenL ls p = none) : plcC ls p = 4 ∧ plcV ls p = 0 ∧ lookL ls p = [] := by simp [plcC, plcV, lookL, h, hn]
theorem plc_some {ls : List (List En)} {p : Bs} {n : Nat} {e : En} (h : askL ls p = 0) (hn : seenL ls p = some n) (he : seeL ls n p = some e) : plcC ls p = 0 ∧ plcV ls p = n ∧ lookL ls p = [asT e] := by simp [plcC, plcV, lookL, h, hn, he]
theorem seeL_mem {ls : List (List En)} {n : Nat} {p : Bs} {e : En} (h : seeL ls n p = some e) : ∃ es ∈ ls, e ∈ es ∧ e.path = p := by
  unfold seeL at h
  cases hx : ls[n]? with
  | none => rw [hx] at h; cases h
  | some es =>
    rw [hx] at h
    obtain ⟨h1, h2⟩ := find_mem (show findE es p = some e from h)
    exact ⟨es, List.mem_of_getElem? hx, h1, h2⟩
theorem rights_sight {ls : List (List En)} (h : ∀ es ∈ ls, Right es) (hs : SmallL ls) : ∀ es ∈ ls, Rise es ∧ es.length ≤ 12 ∧ SmallE es := fun es he => ⟨(h es he).rise, (h es he).len, (hs es he).2⟩

end Go.Proofs.YtebgfaohhhgdpaaGreat

namespace Go.Proofs.YtebgfaohhhgdpaaGreat
open Go.RowKit Go.Maps
set_option linter.unusedVariables false
attribute [local go_sem ↓] Go.wp_at_zero Go.wp_at_succ

theorem asT_chunks (e : En) : (asT e).chunks = e.chunks := by unfold asT; split <;> rfl

set_option maxRecDepth 100000 in
set_option maxHeartbeats 3200000 in
theorem implLookOver_any (a : Option Addr) (c n : Nat) (ls : List (List En)) (p : Bs) (w : World) (h : RdL w a ls) (hn : n = ls.length) (hl : ls.length ≤ 1048576) (hs : SmallL ls) (hp : p.length ≤ 1048576) :
    Calls Tryz.prog 37 #[.slice a n c, .string (str p)] w (ResE (plcC ls p) (lookL ls p) w) := by
  subst hn
  have X0 := hide (Box.new w (.int .i64 0) (.slice none 0 0) 42)
  have B0 := hide (below_alloc w (.cells #[.int .i64 0, .slice none 0 0] 42))
  have HR := hide h
  have HSL := hide hs
  have HAs := hide (implAskL_any a c ls.length ls p _ (h.below B0.out) rfl hl hs hp)
  clear h hs
  by_cases hz : askL ls p = 0
  · obtain ⟨h4, hRs, hpf⟩ := askL_right hz
    rw [hz] at HAs
    have HRs := hide (rights_sight hRs HSL.out)
    go_enter Tryz.func37, Tryz.ntmps37
    go_wp2_with fail
    refine HAs.out.mono ?_
    rintro r w1 ⟨rfl, hb1⟩
    have B1 := hide (below_next B0.out hb1)
    have X1 := hide (X0.out.below hb1)
    clear hb1 X0 B0 HAs
    go_wp2_with fail
    refine (sightOf_any a c ls.length ls w1 (HR.out.below B1.out) rfl h4 HRs.out).mono ?_
    rintro r w2 ⟨b, N, rfl, hbb, hN, hM, hb2⟩
    have HM := hide hM
    have BB2 := hide hb2
    have B2 := hide (below_next B1.out hb2)
    have X2 := hide (X1.out.below hb2)
    have HSA := hide (seenAt_any b N p (seeL ls) w1 w2 hM hp)
    clear hM hb2
    unfold ResW at HSA
    cases hsn : seenG (seeL ls) p 4 with
    | none =>
      have HC := hide (plc_none hz hsn)
      rw [hsn] at HSA
      clear hz hsn hRs hpf
      go_wp2_with fail
      refine HSA.out.mono ?_
      rintro r w3 ⟨⟨v, s, rfl⟩, hb3⟩
      have B3 := hide (below_next (below_next B2.out hb3) (below_alloc w3 (.cells #[.int .i64 v, .string s] 104)))
      obtain ⟨⟨t0, t1⟩, t2, t3⟩ := X2.out.below (below_next hb3 (below_alloc w3 (.cells #[.int .i64 v, .string s] 104)))
      clear hb3
      go_wp2_with fail
      exact bodyPost_ret (v := .agg #[.int .i64 4, .slice none 0 0]) (by simp [results, Tryz.results37, go_sem, t0, t1]) rfl (by rw [HC.out.1, HC.out.2.2]; exact ResE.bad (Nat.le_refl _) B3.out)
    | some k =>
      obtain ⟨hk4, e, he, -⟩ := seen_some hsn
      have HC := hide (plc_some hz hsn he)
      rw [hsn] at HSA
      obtain ⟨es, hes, hee, -⟩ := seeL_mem he
      have hkk := ent_kinds ((hRs es hes).ent e hee)
      have hsm := (HSL.out es hes).2 e hee
      clear hz hsn hRs hpf hes hee
      go_wp2_with fail
      refine HSA.out.mono ?_
      rintro r w3 ⟨rfl, hb3⟩
      have BA := hide (below_alloc w3 (.cells #[.int .i64 k, .string (str p)] 104))
      have B3 := hide (below_next (below_next B2.out hb3) BA.out)
      have X3 := hide (X2.out.below (below_next hb3 BA.out))
      have BB3 := hide (below_next (below_next BB2.out hb3) BA.out)
      obtain ⟨x, cc, -, hlk, hrd⟩ := ((HM.out.below hb3).below BA.out).yes (by omega : k ≤ 100) hp he
      have HL := hide hlk
      have HRc := hide (hrd.below BB3.out)
      have Y3 := hide (Box.new w3 (.int .i64 k) (.string (str p)) 104)
      unfold spotV
      clear hb3 hlk hrd he HM HSA X2 B2 BB2 BA
      obtain ⟨⟨y0, y1⟩, y2, y3⟩ := Y3.out
      unfold spotV at HL
      go_wp2_with (at_lookup; refine wpList_lookS rfl _ _ 101 false rfl _ _ _ rfl rfl HL.out ?_)
      refine (ofTree_any e x cc _ hkk).mono ?_
      rintro r w4 ⟨rfl, hb4⟩
      have B4 := hide (below_next B3.out hb4)
      have X4 := hide (X3.out.below hb4)
      have BA5 := hide (below_alloc w4 (.cells #[.int .i64 (asT e).size, .slice x (asT e).chunks.length cc, .string (str (asT e).path), .int .i64 (asT e).kind] 66))
      have HR4 := hide (show Reads .i64 w4 x (asT e).chunks by rw [asT_chunks]; exact HRc.out.below hb4)
      have RI5 := hide (RdI.fresh (e := asT e) (c := cc) (t := 66) HR4.out)
      have hsm2 : (asT e).path.length ≤ 1048576 ∧ (asT e).chunks.length ≤ 1048576 := by rw [asT_path, asT_chunks]; exact hsm
      have B5 := hide (below_next B4.out BA5.out)
      have X5 := hide (X4.out.below BA5.out)
      have hs4 := B4.out.size
      have hlt5 : w.heap.size < (w4.alloc (.cells #[.int .i64 (asT e).size, .slice x (asT e).chunks.length cc, .string (str (asT e).path), .int .i64 (asT e).kind] 66)).heap.size := X5.out.1.lt
      clear hb4 y0 y1 y2 y3 Y3 HL HRc HR4 X3 B3 BB3 X4 BA5
      unfold itV
      generalize asT e = E at *
      go_wp2_with fail
      generalize w4.alloc (.cells #[.int .i64 E.size, .slice x E.chunks.length cc, .string (str E.path), .int .i64 E.kind] 66) = W5 at *
      refine (entriesOf_any _ _ 1 [E] _ RI5.out rfl (by simp) (fun y hy => by simp only [List.mem_singleton] at hy; subst hy; exact hsm2)).mono ?_
      rintro r w7 ⟨av7, cv7, rfl, hG7, hb7⟩
      obtain ⟨⟨t0, t1⟩, t2, t3⟩ := X5.out.below hb7
      have G7 := hide hG7
      have B7 := hide (below_next B5.out hb7)
      clear hG7 hb7
      go_wp2_with fail
      exact bodyPost_ret (v := .agg #[.int .i64 0, .slice av7 1 cv7]) (by simp [results, Tryz.results37, go_sem, t0, t1]) rfl (by rw [HC.out.1, HC.out.2.2]; exact ResE.of (w2 := w1) hlt5 (Nat.le_refl _) rfl G7.out B7.out)
  · have HC := hide (plc_bad hz)
    generalize askL ls p = F at *
    have hz2 : (F != 0) = true := by simp; exact hz
    clear hz
    go_enter Tryz.func37, Tryz.ntmps37
    go_wp2_with fail
    refine HAs.out.mono ?_
    rintro r w1 ⟨rfl, hb1⟩
    have B1 := hide (below_next B0.out hb1)
    obtain ⟨⟨t0, t1⟩, t2, t3⟩ := X0.out.below hb1
    clear hb1
    go_wp2_with fail
    exact bodyPost_ret (v := .agg #[.int .i64 F, .slice none 0 0]) (by simp [results, Tryz.results37, go_sem, t0, t1]) rfl (by rw [HC.out.1, HC.out.2.2]; exact ResE.bad (Nat.le_refl _) B1.out)
end Go.Proofs.YtebgfaohhhgdpaaGreat

namespace Go.Proofs.YtebgfaohhhgdpaaGreat
open Go.RowKit Go.Sort Go.Shelf
set_option linter.unusedVariables false
def Tryz.pdqT_ren : Go.Shelf.Ren := ⟨fun | 14 => 151 | 20 => 184 | 21 => 185 | 22 => 186 | 23 => 187 | 24 => 188 | 25 => 189 | 26 => 190 | 27 => 191 | 46 => 210 | 47 => 211 | 48 => 212 | 49 => 213 | 50 => 214 | 15 => 152 | 57 => 218 | 28 => 192 | 29 => 193 | n => n, fun | 24 => 66 | 22 => 57 | 3 => 3 | 25 => 117 | 4 => 4 | 0 => 0 | 46 => 186 | 45 => 185 | 50 => 190 | 66 => 203 | 39 => 159 | 55 => 194 | 70 => 207 | 76 => 210 | 77 => 211 | 53 => 171 | 5 => 5 | 9 => 9 | n => n, fun | n => n⟩
theorem Tryz.pdqT : Go.Proofs.SlLaysF0.n14 Tryz.prog Tryz.pdqT_ren := {
  mixed := by kernel_rfl
  f14 := ⟨Tryz.f151.name, by decide, Tryz.func151.trans (congrArg some (by kernel_rfl))⟩
  f15 := Tryz.func152.trans (congrArg some (by kernel_rfl))
  f20 := ⟨Tryz.f184.name, by decide, Tryz.func184.trans (congrArg some (by kernel_rfl))⟩
  f21 := ⟨Tryz.f185.name, by decide, Tryz.func185.trans (congrArg some (by kernel_rfl))⟩
  f22 := ⟨Tryz.f186.name, by decide, Tryz.func186.trans (congrArg some (by kernel_rfl))⟩
  f23 := ⟨Tryz.f187.name, by decide, Tryz.func187.trans (congrArg some (by kernel_rfl))⟩
  f24 := ⟨Tryz.f188.name, by decide, Tryz.func188.trans (congrArg some (by kernel_rfl))⟩
  f25 := ⟨Tryz.f189.name, by decide, Tryz.func189.trans (congrArg some (by kernel_rfl))⟩
  f26 := ⟨Tryz.f190.name, by decide, Tryz.func190.trans (congrArg some (by kernel_rfl))⟩
  f27 := ⟨Tryz.f191.name, by decide, Tryz.func191.trans (congrArg some (by kernel_rfl))⟩
  f28 := Tryz.func192.trans (congrArg some (by kernel_rfl))
  f29 := Tryz.func193.trans (congrArg some (by kernel_rfl))
  f46 := ⟨Tryz.f210.name, by decide, Tryz.func210.trans (congrArg some (by kernel_rfl))⟩
  f47 := Tryz.func211.trans (congrArg some (by kernel_rfl))
  f48 := Tryz.func212.trans (congrArg some (by kernel_rfl))
  f49 := ⟨Tryz.f213.name, by decide, Tryz.func213.trans (congrArg some (by kernel_rfl))⟩
  f50 := ⟨Tryz.f214.name, by decide, Tryz.func214.trans (congrArg some (by kernel_rfl))⟩
  f57 := ⟨Tryz.f218.name, by decide, Tryz.func218.trans (congrArg some (by kernel_rfl))⟩
  t0 := Tryz.underlying0
  a0 := Tryz.isAgg0
  z0 := Tryz.sizeOf0
  v0 := Tryz.zeroValue0
  t3 := Tryz.underlying3
  a3 := Tryz.isAgg3
  z3 := Tryz.sizeOf3
  v3 := Tryz.zeroValue3
  t4 := Tryz.underlying4
  a4 := Tryz.isAgg4
  z4 := Tryz.sizeOf4
  v4 := Tryz.zeroValue4
  t5 := Tryz.underlying5
  a5 := Tryz.isAgg5
  z5 := Tryz.sizeOf5
  v5 := Tryz.zeroValue5
  t9 := Tryz.underlying9
  a9 := Tryz.isAgg9
  z9 := Tryz.sizeOf9
  v9 := Tryz.zeroValue9
  t22 := Tryz.underlying57
  a22 := Tryz.isAgg57
  z22 := Tryz.sizeOf57
  v22 := Tryz.zeroValue57
  t25 := Tryz.underlying117
  a25 := Tryz.isAgg117
  z25 := Tryz.sizeOf117
  v25 := Tryz.zeroValue117
  t39 := Tryz.underlying159
  a39 := Tryz.isAgg159
  z39 := Tryz.sizeOf159
  v39 := Tryz.zeroValue159
  t45 := Tryz.underlying185
  a45 := Tryz.isAgg185
  z45 := Tryz.sizeOf185
  v45 := Tryz.zeroValue185
  t46 := Tryz.underlying186
  a46 := Tryz.isAgg186
  z46 := Tryz.sizeOf186
  v46 := Tryz.zeroValue186
  t50 := Tryz.underlying190
  a50 := Tryz.isAgg190
  z50 := Tryz.sizeOf190
  v50 := Tryz.zeroValue190
  t53 := Tryz.underlying171
  a53 := Tryz.isAgg171
  z53 := Tryz.sizeOf171
  v53 := Tryz.zeroValue171
  t55 := Tryz.underlying194
  a55 := Tryz.isAgg194
  z55 := Tryz.sizeOf194
  v55 := Tryz.zeroValue194
  t66 := Tryz.underlying203
  a66 := Tryz.isAgg203
  z66 := Tryz.sizeOf203
  v66 := Tryz.zeroValue203
  t70 := Tryz.underlying207
  a70 := Tryz.isAgg207
  z70 := Tryz.sizeOf207
  v70 := Tryz.zeroValue207
  t76 := Tryz.underlying210
  a76 := Tryz.isAgg210
  z76 := Tryz.sizeOf210
  v76 := Tryz.zeroValue210
  t77 := Tryz.underlying211
  a77 := Tryz.isAgg211
  z77 := Tryz.sizeOf211
  v77 := Tryz.zeroValue211 }
def Tryz.lenT_ren : Go.Shelf.Ren := ⟨fun | 125 => 152 | 128 => 192 | 129 => 193 | n => n, fun | 46 => 159 | 3 => 3 | 51 => 171 | 53 => 194 | 4 => 4 | 5 => 5 | 9 => 9 | n => n, fun | n => n⟩
theorem Tryz.lenT : Go.Proofs.Lays.n125 Tryz.prog Tryz.lenT_ren := {
  mixed := by kernel_rfl
  f125 := Tryz.func152.trans (congrArg some (by kernel_rfl))
  f128 := Tryz.func192.trans (congrArg some (by kernel_rfl))
  f129 := Tryz.func193.trans (congrArg some (by kernel_rfl))
  t3 := Tryz.underlying3
  a3 := Tryz.isAgg3
  z3 := Tryz.sizeOf3
  v3 := Tryz.zeroValue3
  t4 := Tryz.underlying4
  a4 := Tryz.isAgg4
  z4 := Tryz.sizeOf4
  v4 := Tryz.zeroValue4
  t5 := Tryz.underlying5
  a5 := Tryz.isAgg5
  z5 := Tryz.sizeOf5
  v5 := Tryz.zeroValue5
  t9 := Tryz.underlying9
  a9 := Tryz.isAgg9
  z9 := Tryz.sizeOf9
  v9 := Tryz.zeroValue9
  t46 := Tryz.underlying159
  a46 := Tryz.isAgg159
  z46 := Tryz.sizeOf159
  v46 := Tryz.zeroValue159
  t51 := Tryz.underlying171
  a51 := Tryz.isAgg171
  z51 := Tryz.sizeOf171
  v51 := Tryz.zeroValue171
  t53 := Tryz.underlying194
  a53 := Tryz.isAgg194
  z53 := Tryz.sizeOf194
  v53 := Tryz.zeroValue194 }
end Go.Proofs.YtebgfaohhhgdpaaGreat

namespace Go.Proofs.YtebgfaohhhgdpaaGreat
open Go.RowKit Go.Sort
set_option linter.unusedVariables false

/-- What cmp.Compare answers to two texts. -/
def cmpB (a b : Bs) : Int := if Op.bytesLess a b then -1 else if Op.bytesLess b a then 1 else 0
theorem cmpB_lt (a b : Bs) : decide (cmpB a b < 0) = Op.bytesLess a b := by
  unfold cmpB
  cases h : Op.bytesLess a b
  · cases h2 : Op.bytesLess b a <;> rfl
  · rfl

theorem isNaN_any (s : ByteArray) (w : World) : Calls Tryz.prog 194 #[.string s] w fun e w' => e = .returned (.bool false) ∧ w' = w := by
  go_enter Tryz.func194, Tryz.ntmps194
  go_wp2
  go_ret
  exact ⟨by simp, rfl⟩
set_option maxHeartbeats 800000 in
theorem compare_any (p q : Bs) (w : World) : Calls Tryz.prog 153 #[.string (str p), .string (str q)] w fun e w' => e = .returned (.int .i64 (cmpB p q)) ∧ w' = w := by
  obtain ⟨F, hF⟩ : ∃ F : Int, F = cmpB p q := ⟨_, rfl⟩
  rw [← hF]
  cases h1 : Op.bytesLess (str p).toList (str q).toList
  · by_cases hpq : p = q
    · have hs1 := str_yes hpq
      have HE := hide (show F = 0 from by rw [hF, cmpB, hpq, bl_irrefl]; rfl)
      clear hF hpq
      go_enter Tryz.func153, Tryz.ntmps153
      go_wp2_with (go_at_call 194; refine (isNaN_any _ _).mono ?_; rintro e w' ⟨rfl, rfl⟩)
      go_ret
      exact ⟨ret_int HE.out.symm, rfl⟩
    · have hs1 := str_no hpq
      have HE := hide (show F = 1 from by
        rw [str_toList, str_toList] at h1
        rw [hF, cmpB, h1, bl_total _ _ h1 hpq]; rfl)
      clear hF hpq
      go_enter Tryz.func153, Tryz.ntmps153
      go_wp2_with (go_at_call 194; refine (isNaN_any _ _).mono ?_; rintro e w' ⟨rfl, rfl⟩)
      go_ret
      exact ⟨ret_int HE.out.symm, rfl⟩
  · have HE := hide (show F = -1 from by rw [hF, cmpB]; rw [str_toList, str_toList] at h1; rw [h1]; rfl)
    clear hF
    go_enter Tryz.func153, Tryz.ntmps153
    go_wp2_with (go_at_call 194; refine (isNaN_any _ _).mono ?_; rintro e w' ⟨rfl, rfl⟩)
    go_ret
    exact ⟨ret_int HE.out.symm, rfl⟩
set_option maxHeartbeats 800000 in
theorem sortLit_any (x y : Rw) (W : World) : Calls Tryz.prog 101 #[.agg (cellsI x).toArray, .agg (cellsI y).toArray] W fun e w' => e = .returned (.int .i64 (cmpB x.e.path y.e.path)) ∧ ∃ q os', w' = grow (W.drewN q) os' := by
  have hcon := fun W' => compare_any x.e.path y.e.path W'
  generalize cmpB x.e.path y.e.path = r at hcon ⊢
  show Calls Tryz.prog 101 #[.agg #[.int .i64 x.e.size, .slice x.a x.e.chunks.length x.c, .string (str x.e.path), .int .i64 x.e.kind], .agg #[.int .i64 y.e.size, .slice y.a y.e.chunks.length y.c, .string (str y.e.path), .int .i64 y.e.kind]] W _
  go_enter Tryz.func101, Tryz.ntmps101
  go_wp2_with (go_at_call 153; refine (hcon _).mono ?_; rintro e w' ⟨rfl, rfl⟩)
  go_ret
  exact ⟨rfl, 0, _, by rw [alloc_eq_grow, alloc_eq_grow, grow_grow]; rfl⟩

/-- Two lists that rise and hold the same are one. -/
theorem rise_unique : ∀ {l1 l2 : List Rw}, l1.Perm l2 → l1.Pairwise (fun x y => Op.bytesLess x.e.path y.e.path = true) → l2.Pairwise (fun x y => Op.bytesLess x.e.path y.e.path = true) → l1 = l2
  | [], l2, hp, _, _ => hp.symm.eq_nil.symm
  | a :: l1, [], hp, _, _ => by have := hp.length_eq; simp at this
  | a :: l1, b :: l2, hp, h1, h2 => by
    have p1 := List.pairwise_cons.1 h1
    have p2 := List.pairwise_cons.1 h2
    have hab : a = b := by
      have ha : a ∈ b :: l2 := hp.subset List.mem_cons_self
      have hb : b ∈ a :: l1 := hp.symm.subset List.mem_cons_self
      rcases List.mem_cons.1 ha with h | ha
      · exact h
      · rcases List.mem_cons.1 hb with h | hb
        · exact h.symm
        · have q1 := p2.1 a ha
          have q2 := p1.1 b hb
          rw [bl_asymm q1] at q2
          cases q2
    subst hab
    rw [rise_unique (List.Perm.cons_inv hp) p1.2 p2.2]

theorem swo_path : SWO (ltOf fun x y : Rw => cmpB x.e.path y.e.path) := by
  have e : ∀ x y : Rw, ltOf (fun x y : Rw => cmpB x.e.path y.e.path) x y = Op.bytesLess x.e.path y.e.path := fun x y => cmpB_lt _ _
  refine ⟨fun x => by rw [e, bl_irrefl], fun x y z => by rw [e, e, e]; exact bl_trans _ _ _, fun x y z => ?_⟩
  rw [e, e, e]
  intro h1 h2
  cases h3 : Op.bytesLess x.e.path z.e.path
  · rfl
  · by_cases h4 : y.e.path = z.e.path
    · rw [h4] at h1; rw [h1] at h3; cases h3
    · have := bl_trans _ _ _ h3 (bl_total _ _ h2 h4)
      rw [h1] at this; cases this

end Go.Proofs.YtebgfaohhhgdpaaGreat

namespace Go.Proofs.YtebgfaohhhgdpaaGreat
set_option linter.unusedVariables false

theorem up_hid {L : List En} (h : Fit L) {q : Bs} (hq : faultP q = 0) : ((above q).any fun u => (findE L u).any fun e => !decide (e.kind = 2)) = hid L q := by
  rw [Bool.eq_iff_iff, hid_iff, List.any_eq_true]
  constructor
  · rintro ⟨u, hu, hr⟩
    cases hf : findE L u with
    | none => rw [hf] at hr; cases hr
    | some e =>
      rw [hf] at hr
      obtain ⟨he, rfl⟩ := find_mem hf
      have hb : isBelow q e.path = true := by simpa [isBelow] using hu
      rw [isBelow_good hq] at hb
      exact ⟨e, he, by simpa using hr, (of_decide_eq_true hb).2⟩
  · rintro ⟨e, he, hk, hb⟩
    refine ⟨e.path, ?_, by rw [rise_find h.rise he]; simpa using hk⟩
    have hb : isBelow q e.path = true := by rw [isBelow_good hq]; exact decide_eq_true ⟨h.path he, hb⟩
    simpa [isBelow] using hb

/-- The tree that the layers make. -/
def allE (ls : List (List En)) : List En := ls.foldl mergeE []
theorem allE_snoc (D : List (List En)) (L : List En) : allE (D ++ [L]) = mergeE (allE D) L := by simp [allE, List.foldl_append]
/-- What is seen at a path, of the n lowest layers. -/
def sawN (ls : List (List En)) (q : Bs) (n : Nat) : Option En := (seenG (seeL ls) q n).bind fun k => (seeL ls k q).map asT
theorem all_view {ls : List (List En)} (h : ∀ es ∈ ls, Fit es) : ∀ n, n ≤ ls.length → FitT (allE (ls.take n)) ∧ ∀ q, faultP q = 0 → findE (allE (ls.take n)) q = sawN ls q n
  | 0, _ => ⟨by simpa [allE] using fitT_nil, fun q _ => by simp [allE, sawN, seenG, findE]⟩
  | n + 1, hn => by
    obtain ⟨ih1, ih2⟩ := all_view h n (by omega)
    have hL : ls[n]? = some (ls[n]'(by omega)) := List.getElem?_eq_getElem (by omega)
    have hm := List.mem_of_getElem? hL
    generalize ls[n]'(by omega) = L at *
    have ht : ls.take (n + 1) = ls.take n ++ [L] := by rw [List.take_add_one, hL]; rfl
    rw [ht, allE_snoc]
    have hF := h L hm
    refine ⟨merge_fit ih1 hF, fun q hq => ?_⟩
    rw [merge_find ih1 hF]
    have hS : ∀ u, seeL ls n u = findE L u := fun u => by simp [seeL, hL]
    unfold sawN
    cases hf : findE L q with
    | some e =>
      rw [seeT_some hf, seen_hit (by rw [hS]; exact hf)]
      by_cases h3 : e.kind = 3
      · simp [h3]
      · simp [h3, hS, hf]
    | none =>
      rw [seeT_none hf]
      have hu := up_hid hF hq
      cases hh : hid L q
      · rw [seen_down (by rw [hS]; exact hf) (by simp only [hS]; rw [hu, hh]), if_neg (by simp), ih2 q hq]
        rfl
      · rw [seen_hid (by rw [hS]; exact hf) (by simp only [hS]; rw [hu, hh])]
        simp
theorem seen_over {ls : List (List En)} {q : Bs} : ∀ {n : Nat}, ls.length ≤ n → seenG (seeL ls) q n = seenG (seeL ls) q ls.length
  | 0, h => by rw [Nat.le_zero.1 h]
  | n + 1, h => by
    by_cases h1 : ls.length = n + 1
    · rw [h1]
    · have hS : ∀ u, seeL ls n u = none := fun u => by
        have : ls[n]? = none := List.getElem?_eq_none (by omega)
        simp [seeL, this]
      rw [seen_down (hS q) (by rw [List.any_eq_false]; intro u _; rw [hS u]; simp)]
      exact seen_over (by omega)
/-- What is seen at a path. -/
def sawE (ls : List (List En)) (q : Bs) : Option En := (seenL ls q).bind fun k => (seeL ls k q).map asT
theorem all_fit {ls : List (List En)} (h : ∀ es ∈ ls, Fit es) : FitT (allE ls) := by
  have := (all_view h ls.length (Nat.le_refl _)).1
  rwa [List.take_length] at this
theorem all_find {ls : List (List En)} (h : ∀ es ∈ ls, Fit es) (h4 : ls.length ≤ 4) {q : Bs} (hq : faultP q = 0) : findE (allE ls) q = sawE ls q := by
  have := (all_view h ls.length (Nat.le_refl _)).2 q hq
  rw [List.take_length] at this
  rw [this]
  unfold sawN sawE seenL
  rw [seen_over h4]
theorem rights_fit {ls : List (List En)} (h : ∀ es ∈ ls, Right es) : ∀ es ∈ ls, Fit es := fun es he => (right_fit.1 (h es he)).1
theorem look_all {ls : List (List En)} {p : Bs} (h : askL ls p = 0) : plcC ls p = (if (findE (allE ls) p).isSome then 0 else 4) ∧ lookL ls p = (findE (allE ls) p).toList := by
  obtain ⟨h4, hR, hp⟩ := askL_right h
  rw [all_find (rights_fit hR) h4 hp]
  cases hs : seenL ls p with
  | none =>
    obtain ⟨h1, -, h2⟩ := plc_none h hs
    rw [h1, h2]; simp [sawE, hs]
  | some k =>
    obtain ⟨-, e, he, -⟩ := seen_some (show seenG (seeL ls) p 4 = some k from hs)
    obtain ⟨h1, -, h2⟩ := plc_some h hs he
    rw [h1, h2]; simp [sawE, hs, he]
end Go.Proofs.YtebgfaohhhgdpaaGreat

