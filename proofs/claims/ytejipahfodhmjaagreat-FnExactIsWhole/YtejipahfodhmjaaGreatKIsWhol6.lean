/-
  Texts put together: OvrM SeeC SeeE SeeF SeeH OvrP AppL.
-/
import Derived.Test.YtejipahfodhmjaaGreatKIsWhol5
import Derived.Test.YtejipahfodhmjaaGreatKIsWhol3
import Derived.Test.YtejipahfodhmjaaGreatKIsWhol4
import Derived.Test.YtejipahfodhmjaaGreatKIsWhol1
import Derived.Maps.AppendAt
namespace Go.Proofs.YtejipahfodhmjaaGreat
open Go.RowKit Go.Maps
set_option linter.unusedVariables false
attribute [local go_sem ↓] Go.wp_at_zero Go.wp_at_succ

theorem find_at_none {es : List En} {p : Bs} (h : atE es p = none) : findE es p = none := by rw [atE_find, h]; rfl
theorem find_at_some {es : List En} {p : Bs} {k : Nat} (h : atE es p = some k) : ∃ e, es[k]? = some e ∧ findE es p = some e := by
  have hk := atE_lt h
  obtain ⟨e, he⟩ : ∃ e, es[k]? = some e := ⟨_, List.getElem?_eq_getElem hk⟩
  exact ⟨e, he, by rw [atE_find, h]; exact he⟩
theorem above_small {p : Bs} (hp : faultP p = 0) : ∀ u ∈ above p, u.length ≤ p.length := by
  intro u hu
  have hb : isBelow p u = true := by simpa [isBelow] using hu
  rw [isBelow_good hp] at hb
  have := below_len (of_decide_eq_true hb).2
  omega
set_option maxRecDepth 100000 in
set_option maxHeartbeats 6400000 in
theorem l8Over_any (a : Option Addr) (c n : Nat) (es : List En) (p : Bs) (w : World) (h : RdE w a es) (hn : n = es.length) (hl : es.length ≤ 1048576) (hp : faultP p = 0) (hpl : p.length ≤ 1048576) :
    Calls Tryz.prog 107 #[.slice a n c, .string (str p)] w fun r w' => r = .returned (.int .i64 (overN es (above p))) ∧ Below w.heap.size w w' := by
  subst hn
  have HR := hide h
  have hsz := str_size p
  have h1 : 1 ≤ (str p).size := faultP_pos (by rw [str_data]; exact hp)
  have HU := hide (show aboveN (cutB (str p).data.toList.tail) = above p from by rw [str_data, above_good hp])
  have HUl := hide (above_len p)
  clear h hp
  generalize above p = ups at *
  go_enter Tryz.func107, Tryz.ntmps107
  go_wp2_with fail
  refine (l3Above_any (str p) _ h1 (by omega)).mono ?_
  rintro r w1 ⟨v, rfl, ho, hb1⟩
  rw [HU.out] at ho
  obtain ⟨av, cv, rfl⟩ := ownsRow_shape ho
  have RU := hide (OwnS.reads ho)
  have B1 := hide hb1
  clear ho hb1 HU
  go_wp2_with fail
  go_loopw [5, 7] (fun v i wr => ∃ k : Nat, k ≤ ups.length ∧ v = .int .i64 (overN es (ups.take k)) ∧ i = .int .i64 k ∧ Hid (overN es (ups.take k) ≠ 2) ∧ Hid (Below w1.heap.size w1 wr)) (fun _ i _ => ups.length - (intOf i).toNat)
  case atStart => exact ⟨0, Nat.zero_le _, rfl, rfl, hide (by simp [overN]), hide (Below.refl _ _)⟩
  case round =>
    obtain ⟨k, hk, rfl, rfl, HN2, HW⟩ := hrel
    have hul := HUl.out
    by_cases hlt : k < ups.length
    · obtain ⟨b, off, rfl, hb, hc⟩ := (RU.out.below HW.out) (by intro e; simp [e] at hlt)
      have q0 := hc k hlt
      have hx : ups[k]? = some (ups.getD k []) := by rw [List.getD_eq_getElem?_getD, List.getElem?_eq_getElem hlt]; rfl
      clear hc
      generalize ups.getD k [] = u at *
      have HX := hide hx
      clear hx
      have HE := hide ((HR.out.below B1.out).below HW.out)
      have HAT := hide (l4At_any a c es.length es u wr HE.out rfl hl)
      cases ha : atE es u with
      | none =>
        have HZ := hide (over_take HX.out HN2.out (by rw [rank_none (find_at_none ha)]; decide))
        have HZ2 := hide (over_take_ne HX.out HN2.out (by rw [rank_none (find_at_none ha)]; decide))
        rw [rank_none (find_at_none ha)] at HZ
        rw [ha] at HAT
        have e1 : placeI none = -1 := rfl
        rw [e1] at HAT
        clear ha e1
        go_wp2_with fail
        refine HAT.out.mono ?_
        rintro r w2 ⟨rfl, rfl⟩
        clear q0
        go_wp2_with fail
        go_roundw
        case rel => exact ⟨k + 1, by omega, by rw [HZ.out]; rfl, by go_num, HZ2, HW⟩
        case measure => simp [intOf]; omega
      | some m =>
        obtain ⟨e, he, hf⟩ := find_at_some ha
        have hm := atE_lt ha
        rw [ha] at HAT
        have e1 : placeI (some m) = (m : Int) := rfl
        rw [e1] at HAT
        obtain ⟨bb, off2, e', x, cc, rfl, hb2, he', c0, c1, c2, c3, hr⟩ := HE.out.at hm
        have : e' = e := Option.some.inj (he'.symm.trans he)
        subst this
        have hk0 : ¬ (m : Int) < 0 := by omega
        have hk2 : (0 : Int) ≤ (m : Int) := by omega
        have hk1 : (m : Int) < (es.length : Int) := by omega
        clear ha e1 he he' hr c0 c2 c3
        by_cases h3 : e'.kind = 3
        · have HZ := hide (over_take_two HX.out (rank_two hf (Or.inl h3)))
          have h3' : (e'.kind == 3) = true := by simpa using h3
          clear h3 hf
          go_wp2_with fail
          refine HAT.out.mono ?_
          rintro r w2 ⟨rfl, rfl⟩
          go_wp2_with fail
          go_ret
          exact ⟨by rw [HZ.out]; rfl, below_next B1.out HW.out⟩
        · have h3' : (e'.kind == 3) = false := by simpa using h3
          by_cases h1k : e'.kind = 1
          · have HZ := hide (over_take_two HX.out (rank_two hf (Or.inr h1k)))
            have h1' : (e'.kind == 1) = true := by simpa using h1k
            clear h3 h1k hf
            go_wp2_with fail
            refine HAT.out.mono ?_
            rintro r w2 ⟨rfl, rfl⟩
            go_wp2_with fail
            go_ret
            exact ⟨by rw [HZ.out]; rfl, below_next B1.out HW.out⟩
          · have h1' : (e'.kind == 1) = false := by simpa using h1k
            by_cases h4 : e'.kind = 4
            · have hrk := rank_one hf h4
              have HZ := hide (over_take HX.out HN2.out (by rw [hrk]; decide))
              have HZ2 := hide (over_take_ne HX.out HN2.out (by rw [hrk]; decide))
              rw [hrk] at HZ
              have h4' : (e'.kind == 4) = true := by simpa using h4
              clear h3 h1k h4 hf hrk
              go_wp2_with fail
              refine HAT.out.mono ?_
              rintro r w2 ⟨rfl, rfl⟩
              go_wp2_with fail
              go_roundw
              case rel => exact ⟨k + 1, by omega, by rw [HZ.out]; rfl, by go_num, HZ2, HW⟩
              case measure => simp [intOf]; omega
            · have h4' : (e'.kind == 4) = false := by simpa using h4
              have hrk := rank_dir hf h1k h3 h4
              have HZ := hide (over_take HX.out HN2.out (by rw [hrk]; decide))
              have HZ2 := hide (over_take_ne HX.out HN2.out (by rw [hrk]; decide))
              rw [hrk] at HZ
              clear h3 h1k h4 hf hrk
              go_wp2_with fail
              refine HAT.out.mono ?_
              rintro r w2 ⟨rfl, rfl⟩
              go_wp2_with fail
              go_roundw
              case rel => exact ⟨k + 1, by omega, by rw [HZ.out]; rfl, by go_num, HZ2, HW⟩
              case measure => simp [intOf]; omega
    · have HE := hide (show ups.take k = ups from List.take_of_length_le (by omega))
      go_wp2_with fail
      go_ret
      exact ⟨by rw [HE.out]; rfl, below_next B1.out HW.out⟩
end Go.Proofs.YtejipahfodhmjaaGreat

namespace Go.Proofs.YtejipahfodhmjaaGreat
open Go.RowKit Go.Maps
set_option linter.unusedVariables false
attribute [local go_sem ↓] Go.wp_at_zero Go.wp_at_succ

set_option maxRecDepth 100000 in
set_option maxHeartbeats 1600000 in
theorem hides_any (b N i : Nat) (p : Bs) (S : Nat → Bs → Option En) (w0 w : World) (h : SeeM w0 w b N S) (hi : i ≤ 100) (hp : p.length ≤ 1048576) :
    Calls Tryz.prog 133 #[.map (some b), .int .i64 i, .string (str p)] w fun r w' => r = .returned (.bool ((S i p).any fun e => !decide (e.kind = 2))) ∧ Below w.heap.size w w' := by
  cases hS : S i p with
  | none =>
    have HL := hide (h.no hi hp hS)
    clear h hS
    go_enter Tryz.func133, Tryz.ntmps133
    go_wp2_with (at_lookup; refine wpList_lookS rfl _ _ 83 true rfl _ _ _ rfl rfl HL.out ?_)
    go_ret
    exact ⟨rfl, below_alloc _ _⟩
  | some e =>
    obtain ⟨x, cc, hl, -, -⟩ := h.yes hi hp hS
    have HL := hide hl
    clear h hS hl
    by_cases hk : e.kind = 2
    · have hk' : (e.kind == 2) = true := by simpa using hk
      have HV := hide (show ((some e).any fun e => !decide (e.kind = 2)) = (e.kind != 2) by simp [hk])
      clear hk hk'
      unfold itV at HL
      go_enter Tryz.func133, Tryz.ntmps133
      go_wp2_with (at_lookup; refine wpList_lookS rfl _ _ 83 true rfl _ _ _ rfl rfl HL.out ?_)
      go_ret
      exact ⟨ret_bool HV.out.symm, below_alloc _ _⟩
    · have hk' : (e.kind == 2) = false := by simpa using hk
      have HV := hide (show ((some e).any fun e => !decide (e.kind = 2)) = (e.kind != 2) by simp [hk])
      clear hk hk'
      unfold itV at HL
      go_enter Tryz.func133, Tryz.ntmps133
      go_wp2_with (at_lookup; refine wpList_lookS rfl _ _ 83 true rfl _ _ _ rfl rfl HL.out ?_)
      go_ret
      exact ⟨ret_bool HV.out.symm, below_alloc _ _⟩

def AsksS (W0 : World) (fn : FuncId) (cap : Array Value) (f : Bs → Bool) : Prop :=
  (∀ args w, (callFunc fn args).run Tryz.prog w = .ok (.enter fn args) w) ∧ ∀ (s : Bs) (w : World), s.length ≤ 1048576 → Below W0.heap.size W0 w →
    Calls Tryz.prog fn (#[.string (str s)] ++ cap) w fun r w' => r = .returned (.bool (f s)) ∧ Below w.heap.size w w'

set_option maxRecDepth 100000 in
set_option maxHeartbeats 3200000 in
theorem indexFuncS_any (a : Option Addr) (c n : Nat) (ps : List Bs) (fn : FuncId) (cap : Array Value) (f : Bs → Bool) (w : World) (h : ReadsS w a ps) (hn : n = ps.length) (hl : ps.length ≤ 1048576) (hs : ∀ p ∈ ps, p.length ≤ 1048576) (hf : AsksS w fn cap f) :
    Calls Tryz.prog 159 #[.slice a n c, .func (.func fn) #[] cap] w fun r w' => ((∃ k : Nat, r = .returned (.int .i64 k) ∧ ps.any f = true) ∨ (r = .returned (.int .i64 (-1)) ∧ ps.any f = false)) ∧ Below w.heap.size w w' := by
  subst hn
  have eg := hf.1
  have HF := hide hf
  have HR := hide h
  have HS := hide hs
  clear h hf hs
  go_enter Tryz.func159, Tryz.ntmps159
  go_wp2_with fail
  go_loopw [8] (fun i wr => ∃ k : Nat, k ≤ ps.length ∧ i = .int .i64 k ∧ Hid (ps.any f = (ps.drop k).any f) ∧ Hid (Below w.heap.size w wr)) (fun i _ => ps.length - (intOf i).toNat)
  case atStart => exact ⟨0, Nat.zero_le _, rfl, hide (by simp), hide (Below.refl _ _)⟩
  case round =>
    obtain ⟨k, hk, rfl, HFi, HW⟩ := hrel
    by_cases hlt : k < ps.length
    · obtain ⟨b, off, rfl, hb, hc⟩ := (HR.out.below HW.out) (by intro e; simp [e] at hlt)
      have c0 := hc k hlt
      have hx : ps[k]? = some (ps.getD k []) := by rw [List.getD_eq_getElem?_getD, List.getElem?_eq_getElem hlt]; rfl
      have hd : ps.drop k = ps.getD k [] :: ps.drop (k + 1) := by
        rw [List.drop_eq_getElem_cons hlt]; congr 1; rw [List.getD_eq_getElem?_getD, List.getElem?_eq_getElem hlt]; rfl
      have hsm := HS.out _ (List.mem_of_getElem? hx)
      have HD := hide (HFi.out.trans (by rw [hd, List.any_cons]))
      clear hc hd hx
      generalize ps.getD k [] = q at *
      go_wp2_with fail
      refine (HF.out.2 q _ hsm HW.out).mono ?_
      rintro r w3 ⟨rfl, hb3⟩
      have B3 := hide (below_next HW.out hb3)
      clear hb3 c0
      cases hq : f q
      · have HN := hide (show ps.any f = (ps.drop (k + 1)).any f by rw [HD.out, hq, Bool.false_or])
        clear hq
        go_wp2_with fail
        go_roundw
        case rel => exact ⟨k + 1, by omega, by go_num, HN, B3⟩
        case measure => simp [intOf]; omega
      · have HN := hide (show ps.any f = true by rw [HD.out, hq, Bool.true_or])
        clear hq
        go_wp2_with fail
        go_ret
        exact ⟨.inl ⟨k, rfl, HN.out⟩, B3.out⟩
    · have HN := hide (show ps.any f = false by rw [HFi.out, List.drop_eq_nil_of_le (by omega)]; rfl)
      go_wp2_with fail
      go_ret
      exact ⟨.inr ⟨rfl, HN.out⟩, HW.out⟩
set_option maxRecDepth 100000 in
set_option maxHeartbeats 800000 in
theorem containsFuncS_any (a : Option Addr) (c n : Nat) (ps : List Bs) (fn : FuncId) (cap : Array Value) (f : Bs → Bool) (w : World) (h : ReadsS w a ps) (hn : n = ps.length) (hl : ps.length ≤ 1048576) (hs : ∀ p ∈ ps, p.length ≤ 1048576) (hf : AsksS w fn cap f) :
    Calls Tryz.prog 130 #[.slice a n c, .func (.func fn) #[] cap] w fun r w' => r = .returned (.bool (ps.any f)) ∧ Below w.heap.size w w' := by
  subst hn
  have HC := hide (indexFuncS_any a c ps.length ps fn cap f w h rfl hl hs hf)
  clear h hf hs
  go_enter Tryz.func130, Tryz.ntmps130
  go_wp2_with fail
  refine HC.out.mono ?_
  rintro r w1 ⟨(⟨k, rfl, hi⟩ | ⟨rfl, hi⟩), hb⟩
  · have hk0 : (0 : Int) ≤ (k : Int) := by omega
    have HI := hide hi
    have HB := hide hb
    clear hi hb HC
    go_wp2_with fail
    go_ret
    exact ⟨ret_bool HI.out.symm, HB.out⟩
  · have HI := hide hi
    have HB := hide hb
    clear hi hb HC
    go_wp2_with fail
    go_ret
    exact ⟨ret_bool HI.out.symm, HB.out⟩

set_option maxRecDepth 100000 in
set_option maxHeartbeats 800000 in
theorem hidesLit_any (b N i b1 b2 : Nat) (q : Bs) (S : Nat → Bs → Option En) (w0 w : World) (h : SeeM w0 w b N S) (hi : i ≤ 100) (hq : q.length ≤ 1048576) (h1 : w.cell? ⟨b1, 0, none⟩ = some (.map (some b))) (h2 : w.cell? ⟨b2, 0, none⟩ = some (.int .i64 i)) :
    Calls Tryz.prog 132 #[.string (str q), .pointer (some ⟨b1, 0, none⟩), .pointer (some ⟨b2, 0, none⟩)] w fun r w' => r = .returned (.bool ((S i q).any fun e => !decide (e.kind = 2))) ∧ Below w.heap.size w w' := by
  have HC := hide (hides_any b N i q S w0 w h hi hq)
  clear h
  go_enter Tryz.func132, Tryz.ntmps132
  go_wp2_with fail
  refine HC.out.mono ?_
  rintro r w1 ⟨rfl, hb⟩
  have HB := hide hb
  clear hb
  go_wp2_with fail
  go_ret
  exact ⟨rfl, HB.out⟩
set_option maxRecDepth 100000 in
set_option maxHeartbeats 1600000 in
theorem hidesAbove_any (b N i : Nat) (p : Bs) (S : Nat → Bs → Option En) (w0 w : World) (h : SeeM w0 w b N S) (hi : i ≤ 100) (hp : p.length ≤ 1048576) :
    Calls Tryz.prog 91 #[.map (some b), .int .i64 i, .string (str p)] w fun r w' => r = .returned (.bool ((above p).any fun q => (S i q).any fun e => !decide (e.kind = 2))) ∧ Below w.heap.size w w' := by
  have hmf : ∀ (fn : Fn) (first cap : Array Value) (w : World), (Instr.makeFunc fn first cap).run Tryz.prog w = .ok (.func fn first cap) w := fun _ _ _ _ => rfl
  have B0 := hide (below_next (below_alloc w (.cells #[.map (some b)] 83)) (below_alloc _ (.cells #[.int .i64 i] 3)))
  have HM := hide h
  clear h
  have hsz := str_size p
  go_enter Tryz.func91, Tryz.ntmps91
  go_wp2_with fail
  refine (implAboveOf_any (str p) _ (by omega)).mono ?_
  rintro r w1 ⟨av, cv, rfl, ho, hb⟩
  have B1 := hide (below_next B0.out hb)
  have RS := hide (OwnS.reads ho)
  have HM1 := hide (HM.out.below B1.out)
  have q1 : w1.cell? ⟨w.heap.size, 0, none⟩ = some (.map (some b)) := (hb.cell (p := ⟨w.heap.size, 0, none⟩) (by simp; omega)).trans (by simp)
  have q2 : w1.cell? ⟨w.heap.size + 1, 0, none⟩ = some (.int .i64 i) := (hb.cell (p := ⟨w.heap.size + 1, 0, none⟩) (by simp)).trans (by simp)
  have hsm : ∀ u ∈ above p, u.length ≤ 1048576 := by
    intro u hu
    by_cases hpf : faultP p = 0
    · have := above_small hpf u hu; omega
    · rw [above_bad hpf] at hu; simp at hu
  have HQ : Hid (AsksS w1 132 #[.pointer (some ⟨w.heap.size, 0, none⟩), .pointer (some ⟨w.heap.size + 1, 0, none⟩)] (fun q => (S i q).any fun e => !decide (e.kind = 2))) :=
    hide ⟨enters_of Tryz.func132 (by kernel_rfl) rfl, fun q w' hq hb' => hidesLit_any b N i w.heap.size (w.heap.size + 1) q S w0 w' (HM1.out.below hb') hi hq ((hb'.cell (p := ⟨w.heap.size, 0, none⟩) (World.block_lt_of_cell? w1 _ q1)).trans q1) ((hb'.cell (p := ⟨w.heap.size + 1, 0, none⟩) (World.block_lt_of_cell? w1 _ q2)).trans q2)⟩
  have HSD := hide (str_data p)
  rw [HSD.out] at RS ⊢
  have hal := above_len p
  have HCF := hide (containsFuncS_any av cv (above p).length (above p) _ _ _ w1 RS.out rfl (by omega) hsm HQ.out)
  clear ho hb q1 q2 hsm
  have hfield : ∀ (c v : Value) (w : World), (Instr.field 52 (.agg #[c, v]) 1).run Tryz.prog w = .ok v w := fun c v w => by kernel_rfl
  go_wp2_with fail
  refine HCF.out.mono ?_
  rintro r w2 ⟨rfl, hb2⟩
  have B2 := hide (below_next B1.out hb2)
  clear hb2
  go_wp2_with fail
  go_ret
  exact ⟨rfl, B2.out⟩
end Go.Proofs.YtejipahfodhmjaaGreat

namespace Go.Proofs.YtejipahfodhmjaaGreat
open Go.RowKit Go.Maps
set_option linter.unusedVariables false
attribute [local go_sem ↓] Go.wp_at_zero Go.wp_at_succ

def lsFrom : List (List En) → Int
  | [] => 0
  | es :: r => if layFaultP es = 0 then lsFrom r else layFaultP es
def layersP (ls : List (List En)) : Int := if 4 < ls.length then 2 else lsFrom ls
theorem lsFrom_zero : ∀ {ls : List (List En)}, lsFrom ls = 0 ↔ ∀ es ∈ ls, Right es
  | [] => by simp [lsFrom]
  | es :: r => by
    have ih := lsFrom_zero (ls := r)
    unfold lsFrom
    by_cases h : layFaultP es = 0
    · rw [if_pos h, ih]
      simp [right_P.1 h]
    · rw [if_neg h]
      constructor
      · intro h2; exact absurd h2 h
      · intro h2; exact absurd (right_P.2 (h2 es (by simp))) h
theorem layersP_zero {ls : List (List En)} : layersP ls = 0 ↔ ls.length ≤ 4 ∧ ∀ es ∈ ls, Right es := by
  unfold layersP
  by_cases h : 4 < ls.length
  · rw [if_pos h]; constructor
    · intro h2; cases h2
    · intro h2; omega
  · rw [if_neg h, lsFrom_zero]; constructor
    · intro h2; exact ⟨by omega, h2⟩
    · intro h2; exact h2.2
theorem lsFrom_bad {ls : List (List En)} {k : Nat} {es : List En} (he : ls[k]? = some es) (hf : layFaultP es ≠ 0) : lsFrom (ls.drop k) = layFaultP es := by
  obtain ⟨hk, hx⟩ := List.getElem?_eq_some_iff.1 he
  rw [List.drop_eq_getElem_cons hk, hx]
  simp [lsFrom, hf]
theorem lsFrom_next {ls : List (List En)} {k : Nat} {es : List En} (he : ls[k]? = some es) (hf : layFaultP es = 0) : lsFrom (ls.drop k) = lsFrom (ls.drop (k + 1)) := by
  obtain ⟨hk, hx⟩ := List.getElem?_eq_some_iff.1 he
  rw [List.drop_eq_getElem_cons hk, hx]
  simp [lsFrom, hf]
def SmallL (ls : List (List En)) : Prop := ∀ es ∈ ls, es.length ≤ 1048576 ∧ SmallE es

set_option maxRecDepth 100000 in
set_option maxHeartbeats 3200000 in
theorem implLayersFault_any (a : Option Addr) (c n : Nat) (ls : List (List En)) (w : World) (h : RdL w a ls) (hn : n = ls.length) (hl : ls.length ≤ 1048576) (hs : SmallL ls) :
    Calls Tryz.prog 60 #[.slice a n c] w fun r w' => r = .returned (.int .i64 (layersP ls)) ∧ Below w.heap.size w w' := by
  subst hn
  have HR := hide h
  have HS := hide hs
  clear h hs
  by_cases h4 : 4 < ls.length
  · have HZ := hide (show layersP ls = 2 by simp [layersP, h4])
    have h4' : (4 : Int) < (ls.length : Int) := by omega
    go_enter Tryz.func60, Tryz.ntmps60
    go_wp2_with fail
    go_ret
    exact ⟨by rw [HZ.out]; rfl, Below.refl _ _⟩
  · have HZ := hide (show layersP ls = lsFrom (ls.drop 0) by simp [layersP, h4])
    have h4' : ¬ (4 : Int) < (ls.length : Int) := by omega
    clear h4
    generalize layersP ls = V at *
    go_enter Tryz.func60, Tryz.ntmps60
    go_wp2_with fail
    go_loopw [11] (fun i wr => ∃ k : Nat, k ≤ ls.length ∧ i = .int .i64 k ∧ Hid (V = lsFrom (ls.drop k)) ∧ Hid (Below w.heap.size w wr)) (fun i _ => ls.length - (intOf i).toNat)
    case atStart => exact ⟨0, Nat.zero_le _, rfl, HZ, hide (Below.refl _ _)⟩
    case round =>
      obtain ⟨k, hk, rfl, HV, HW⟩ := hrel
      by_cases hlt : k < ls.length
      · obtain ⟨b, off, es, x, cc, rfl, hb, he, c0, hr⟩ := (HR.out.below HW.out).at hlt
        obtain ⟨hel, hsm⟩ := HS.out es (List.mem_of_getElem? he)
        have HLF := hide (implLayerFault_any x cc es.length es wr hr rfl (by omega) hsm)
        have HX := hide he
        clear he hr hsm
        by_cases hf : layFaultP es = 0
        · have HN := hide (HV.out.trans (lsFrom_next HX.out hf))
          rw [hf] at HLF
          clear hf
          go_wp2_with fail
          refine HLF.out.mono ?_
          rintro r w1 ⟨rfl, hb1⟩
          have B1 := hide (below_next HW.out hb1)
          clear hb1 c0
          go_wp2_with fail
          go_roundw
          case rel => exact ⟨k + 1, by omega, by go_num, HN, B1⟩
          case measure => simp [intOf]; omega
        · have HN := hide (HV.out.trans (lsFrom_bad HX.out hf))
          generalize layFaultP es = F at *
          have hf2 : (F != 0) = true := by simp; exact hf
          clear hf
          go_wp2_with fail
          refine HLF.out.mono ?_
          rintro r w1 ⟨rfl, hb1⟩
          have B1 := hide (below_next HW.out hb1)
          clear hb1 c0
          go_wp2_with fail
          go_ret
          exact ⟨by rw [HN.out]; rfl, B1.out⟩
      · have HN := hide (show V = 0 by rw [HV.out, List.drop_eq_nil_of_le (by omega)]; rfl)
        go_wp2_with fail
        go_ret
        exact ⟨by rw [HN.out]; rfl, HW.out⟩
def seenG (S : Nat → Bs → Option En) (p : Bs) : Nat → Option Nat
  | 0 => none
  | n + 1 => match S n p with
    | some e => if e.kind = 3 then none else some n
    | none => if (above p).any (fun q => (S n q).any fun e => !decide (e.kind = 2)) then none else seenG S p n
theorem seen_hit {S : Nat → Bs → Option En} {p : Bs} {n : Nat} {e : En} (h : S n p = some e) : seenG S p (n + 1) = if e.kind = 3 then none else some n := by simp [seenG, h]
theorem seen_hid {S : Nat → Bs → Option En} {p : Bs} {n : Nat} (h : S n p = none) (hh : ((above p).any fun q => (S n q).any fun e => !decide (e.kind = 2)) = true) : seenG S p (n + 1) = none := by simp [seenG, h, hh]
theorem seen_down {S : Nat → Bs → Option En} {p : Bs} {n : Nat} (h : S n p = none) (hh : ((above p).any fun q => (S n q).any fun e => !decide (e.kind = 2)) = false) : seenG S p (n + 1) = seenG S p n := by simp [seenG, h, hh]
def ResW (o : Option Nat) (p : Bs) (w : World) (r : Ending) (w' : World) : Prop :=
  (match o with
    | some n => r = .returned (.tuple #[spotV n p, .bool true])
    | none => ∃ v s, r = .returned (.tuple #[.agg #[.int .i64 v, .string s], .bool false])) ∧ Below w.heap.size w w'
end Go.Proofs.YtejipahfodhmjaaGreat

namespace Go.Proofs.YtejipahfodhmjaaGreat
open Go.RowKit Go.Maps
set_option linter.unusedVariables false
attribute [local go_sem ↓] Go.wp_at_zero Go.wp_at_succ

set_option maxRecDepth 100000 in
set_option maxHeartbeats 6400000 in
theorem seenAt_any (b N : Nat) (p : Bs) (S : Nat → Bs → Option En) (w0 w : World) (h : SeeM w0 w b N S) (hp : p.length ≤ 1048576) :
    Calls Tryz.prog 41 #[.map (some b), .string (str p)] w (ResW (seenG S p 4) p w) := by
  have X0 := hide (Box.new w (.int .i64 0) (.string ⟨#[]⟩) 86)
  have B0 := hide (below_alloc w (.cells #[.int .i64 0, .string ⟨#[]⟩] 86))
  have M0 := hide (h.below B0.out)
  clear h
  go_enter Tryz.func41, Tryz.ntmps41
  go_wp2_with fail
  generalize w.alloc (.cells #[.int .i64 0, .string ⟨#[]⟩] 86) = W0 at *
  go_loopw [6] (fun i wr => ∃ n : Nat, n ≤ 4 ∧ i = .int .i64 ((n : Int) - 1) ∧ Hid (seenG S p 4 = seenG S p n) ∧ Hid (Below W0.heap.size W0 wr)) (fun i _ => (intOf i + 1).toNat)
  case atStart => exact ⟨4, Nat.le_refl _, rfl, hide rfl, hide (Below.refl _ _)⟩
  case round =>
    obtain ⟨n, hn, hi, HV, HW⟩ := hrel
    cases n with
    | zero =>
      rw [show ((0 : Nat) : Int) - 1 = -1 from rfl] at hi
      subst hi
      have HN := hide (show seenG S p 4 = none from HV.out)
      obtain ⟨⟨t0, t1⟩, t2, t3⟩ := X0.out.below HW.out
      clear HV
      go_wp2_with fail
      refine bodyPost_ret (v := .tuple #[.agg #[.int .i64 0, .string ⟨#[]⟩], .bool false]) (by simp [results, Tryz.results41, go_sem, t0, t1]) rfl ?_
      rw [HN.out]
      exact ⟨⟨0, ⟨#[]⟩, rfl⟩, ((below_next B0.out HW.out).setCell (p := ⟨w.heap.size, 0, none⟩) (Nat.le_refl _) _).setCell (p := ⟨w.heap.size, 1, none⟩) (Nat.le_refl _) _⟩
    | succ m =>
      rw [show ((m + 1 : Nat) : Int) - 1 = (m : Int) from by omega] at hi
      subst hi
      have hm0 : (0 : Int) ≤ (m : Int) := by omega
      have MW := hide (M0.out.below HW.out)
      have BS := hide (below_alloc wr (.cells #[.int .i64 m, .string (str p)] 86))
      have MS := hide (MW.out.below BS.out)
      cases hS : S m p with
      | none =>
        have HL := hide (MS.out.no (i := m) (p := p) (by omega) hp hS)
        have BI := hide (below_next BS.out (below_alloc _ (.cells #[.int .i64 0, .slice none 0 0, .string ⟨#[]⟩, .int .i64 0] 91)))
        have HHA := hide (hidesAbove_any b N m p S w0 _ (MW.out.below BI.out) (by omega) hp)
        have hm1 : IntKind.i64.wrap ((m : Int) - 1) = (m : Int) - 1 := by simp [IntKind.wrap, IntKind.signed, IntKind.bits]; omega
        cases hh : (above p).any fun q => (S m q).any fun e => !decide (e.kind = 2)
        · have HN := hide (HV.out.trans (seen_down hS hh))
          rw [hh] at HHA
          clear hh hS
          go_wp2_with (at_lookup; refine wpList_lookS rfl _ _ 83 true rfl _ _ _ rfl rfl HL.out ?_)
          refine HHA.out.mono ?_
          rintro r w2 ⟨rfl, hb2⟩
          have B2 := hide (below_next (below_next HW.out BI.out) hb2)
          clear hb2
          go_wp2_with fail
          go_roundw
          case rel => exact ⟨m, by omega, by first | rfl | go_num, HN, B2⟩
          case measure => simp [intOf] <;> omega
        · have HN := hide (HV.out.trans (seen_hid hS hh))
          rw [hh] at HHA
          clear hh hS
          go_wp2_with (at_lookup; refine wpList_lookS rfl _ _ 83 true rfl _ _ _ rfl rfl HL.out ?_)
          refine HHA.out.mono ?_
          rintro r w2 ⟨rfl, hb2⟩
          have B2 := hide (below_next (below_next HW.out BI.out) hb2)
          obtain ⟨⟨t0, t1⟩, t2, t3⟩ := X0.out.below B2.out
          clear hb2
          go_wp2_with fail
          refine bodyPost_ret (v := .tuple #[.agg #[.int .i64 0, .string ⟨#[]⟩], .bool false]) (by simp [results, Tryz.results41, go_sem, t0, t1]) rfl ?_
          rw [HN.out]
          exact ⟨⟨0, ⟨#[]⟩, rfl⟩, ((below_next B0.out B2.out).setCell (p := ⟨w.heap.size, 0, none⟩) (Nat.le_refl _) _).setCell (p := ⟨w.heap.size, 1, none⟩) (Nat.le_refl _) _⟩
      | some e =>
        obtain ⟨x, cc, hl, -, -⟩ := MS.out.yes (i := m) (p := p) (by omega) hp hS
        have HL := hide hl
        have HN := hide (HV.out.trans (seen_hit hS))
        unfold itV at HL
        clear hl hS
        have BI := hide (below_next BS.out (below_alloc _ (.cells #[.int .i64 e.size, .slice x e.chunks.length cc, .string (str e.path), .int .i64 e.kind] 91)))
        have B2 := hide (below_next B0.out (below_next HW.out BI.out))
        obtain ⟨⟨t0, t1⟩, t2, t3⟩ := (X0.out.below HW.out).below BI.out
        by_cases hk : e.kind = 3
        · rw [if_pos hk] at HN
          have hk' : (e.kind != 3) = false := by simp [hk]
          clear hk
          go_wp2_with (at_lookup; refine wpList_lookS rfl _ _ 83 true rfl _ _ _ rfl rfl HL.out ?_)
          go_region
          all_goals
            go_wp2_with fail
            refine bodyPost_ret (v := .tuple #[.agg #[.int .i64 m, .string (str p)], .bool false]) (by simp [results, Tryz.results41, go_sem, t0, t1]) rfl ?_
            rw [HN.out]
            exact ⟨⟨m, str p, rfl⟩, (B2.out.drew.setCell (p := ⟨w.heap.size, 0, none⟩) (Nat.le_refl _) _).setCell (p := ⟨w.heap.size, 1, none⟩) (Nat.le_refl _) _⟩
        · rw [if_neg hk] at HN
          have hk' : (e.kind != 3) = true := by simpa using hk
          clear hk
          go_wp2_with (at_lookup; refine wpList_lookS rfl _ _ 83 true rfl _ _ _ rfl rfl HL.out ?_)
          go_region
          all_goals
            go_wp2_with fail
            refine bodyPost_ret (v := .tuple #[.agg #[.int .i64 m, .string (str p)], .bool true]) (by simp [results, Tryz.results41, go_sem, t0, t1]) rfl ?_
            rw [HN.out]
            exact ⟨rfl, (B2.out.drew.setCell (p := ⟨w.heap.size, 0, none⟩) (Nat.le_refl _) _).setCell (p := ⟨w.heap.size, 1, none⟩) (Nat.le_refl _) _⟩
end Go.Proofs.YtejipahfodhmjaaGreat

namespace Go.Proofs.YtejipahfodhmjaaGreat
open Go.RowKit Go.Maps
set_option linter.unusedVariables false
attribute [local go_sem ↓] Go.wp_at_zero Go.wp_at_succ

def seenL (ls : List (List En)) (p : Bs) : Option Nat := seenG (seeL ls) p 4
theorem seen_some {S : Nat → Bs → Option En} {p : Bs} : ∀ {n k : Nat}, seenG S p n = some k → k < n ∧ ∃ e, S k p = some e ∧ e.kind ≠ 3
  | 0, k, h => by cases h
  | n + 1, k, h => by
    cases hS : S n p with
    | some e =>
      rw [seen_hit hS] at h
      by_cases hk : e.kind = 3
      · rw [if_pos hk] at h; cases h
      · rw [if_neg hk] at h
        cases h
        exact ⟨by omega, e, hS, hk⟩
    | none =>
      cases hh : (above p).any fun q => (S n q).any fun e => !decide (e.kind = 2)
      · rw [seen_down hS hh] at h
        obtain ⟨h1, h2⟩ := seen_some h
        exact ⟨by omega, h2⟩
      · rw [seen_hid hS hh] at h; cases h
theorem seeL_mem {ls : List (List En)} {n : Nat} {p : Bs} {e : En} (h : seeL ls n p = some e) : ∃ es ∈ ls, e ∈ es ∧ e.path = p := by
  unfold seeL at h
  cases hx : ls[n]? with
  | none => rw [hx] at h; cases h
  | some es =>
    rw [hx] at h
    obtain ⟨h1, h2⟩ := find_mem (show findE es p = some e from h)
    exact ⟨es, List.mem_of_getElem? hx, h1, h2⟩
theorem rights_sight {ls : List (List En)} (h : ∀ es ∈ ls, Right es) (hs : SmallL ls) : ∀ es ∈ ls, Rise es ∧ es.length ≤ 12 ∧ SmallE es := fun es he => ⟨(h es he).rise, (h es he).len, (hs es he).2⟩

end Go.Proofs.YtejipahfodhmjaaGreat

namespace Go.Proofs.YtejipahfodhmjaaGreat
set_option linter.unusedVariables false

theorem up_hid {L : List En} (h : Fit L) {q : Bs} (hq : faultP q = 0) : ((above q).any fun u => (findE L u).any fun e => !decide (e.kind = 2)) = hid L q := by
  rw [Bool.eq_iff_iff, hid_iff, List.any_eq_true]
  constructor
  · rintro ⟨u, hu, hr⟩
    cases hf : findE L u with
    | none => rw [hf] at hr; cases hr
    | some e =>
      rw [hf] at hr
      obtain ⟨he, rfl⟩ := find_mem hf
      have hb : isBelow q e.path = true := by simpa [isBelow] using hu
      rw [isBelow_good hq] at hb
      exact ⟨e, he, by simpa using hr, (of_decide_eq_true hb).2⟩
  · rintro ⟨e, he, hk, hb⟩
    refine ⟨e.path, ?_, by rw [rise_find h.rise he]; simpa using hk⟩
    have hb : isBelow q e.path = true := by rw [isBelow_good hq]; exact decide_eq_true ⟨h.path he, hb⟩
    simpa [isBelow] using hb

def allE (ls : List (List En)) : List En := ls.foldl mergeE []
theorem allE_snoc (D : List (List En)) (L : List En) : allE (D ++ [L]) = mergeE (allE D) L := by simp [allE, List.foldl_append]
def sawN (ls : List (List En)) (q : Bs) (n : Nat) : Option En := (seenG (seeL ls) q n).bind fun k => (seeL ls k q).map asT
theorem all_view {ls : List (List En)} (h : ∀ es ∈ ls, Fit es) : ∀ n, n ≤ ls.length → FitT (allE (ls.take n)) ∧ ∀ q, faultP q = 0 → findE (allE (ls.take n)) q = sawN ls q n
  | 0, _ => ⟨by simpa [allE] using fitT_nil, fun q _ => by simp [allE, sawN, seenG, findE]⟩
  | n + 1, hn => by
    obtain ⟨ih1, ih2⟩ := all_view h n (by omega)
    have hL : ls[n]? = some (ls[n]'(by omega)) := List.getElem?_eq_getElem (by omega)
    have hm := List.mem_of_getElem? hL
    generalize ls[n]'(by omega) = L at *
    have ht : ls.take (n + 1) = ls.take n ++ [L] := by rw [List.take_add_one, hL]; rfl
    rw [ht, allE_snoc]
    have hF := h L hm
    refine ⟨merge_fit ih1 hF, fun q hq => ?_⟩
    rw [merge_find ih1 hF]
    have hS : ∀ u, seeL ls n u = findE L u := fun u => by simp [seeL, hL]
    unfold sawN
    cases hf : findE L q with
    | some e =>
      rw [seeT_some hf, seen_hit (by rw [hS]; exact hf)]
      by_cases h3 : e.kind = 3
      · simp [h3]
      · simp [h3, hS, hf]
    | none =>
      rw [seeT_none hf]
      have hu := up_hid hF hq
      cases hh : hid L q
      · rw [seen_down (by rw [hS]; exact hf) (by simp only [hS]; rw [hu, hh]), if_neg (by simp), ih2 q hq]
        rfl
      · rw [seen_hid (by rw [hS]; exact hf) (by simp only [hS]; rw [hu, hh])]
        simp
theorem seen_over {ls : List (List En)} {q : Bs} : ∀ {n : Nat}, ls.length ≤ n → seenG (seeL ls) q n = seenG (seeL ls) q ls.length
  | 0, h => by rw [Nat.le_zero.1 h]
  | n + 1, h => by
    by_cases h1 : ls.length = n + 1
    · rw [h1]
    · have hS : ∀ u, seeL ls n u = none := fun u => by
        have : ls[n]? = none := List.getElem?_eq_none (by omega)
        simp [seeL, this]
      rw [seen_down (hS q) (by rw [List.any_eq_false]; intro u _; rw [hS u]; simp)]
      exact seen_over (by omega)
def sawE (ls : List (List En)) (q : Bs) : Option En := (seenL ls q).bind fun k => (seeL ls k q).map asT
theorem all_fit {ls : List (List En)} (h : ∀ es ∈ ls, Fit es) : FitT (allE ls) := by
  have := (all_view h ls.length (Nat.le_refl _)).1
  rwa [List.take_length] at this
theorem all_find {ls : List (List En)} (h : ∀ es ∈ ls, Fit es) (h4 : ls.length ≤ 4) {q : Bs} (hq : faultP q = 0) : findE (allE ls) q = sawE ls q := by
  have := (all_view h ls.length (Nat.le_refl _)).2 q hq
  rw [List.take_length] at this
  rw [this]
  unfold sawN sawE seenL
  rw [seen_over h4]
theorem rights_fit {ls : List (List En)} (h : ∀ es ∈ ls, Right es) : ∀ es ∈ ls, Fit es := fun es he => (right_fit.1 (h es he)).1
theorem all_rise {ls : List (List En)} {rs : List En} (h : ∀ es ∈ ls, Right es) (h4 : ls.length ≤ 4) (hr : Rise rs) (hm : ∀ e, e ∈ rs ↔ ∃ k, seenL ls e.path = some k ∧ seeL ls k e.path = some e) : rs.map asT = allE ls := by
  have hF := rights_fit h
  have hr2 : Rise (rs.map asT) := by
    unfold Rise at hr ⊢
    rw [List.pairwise_map]
    exact hr.imp (fun {a b} hab => by rw [asT_path, asT_path]; exact hab)
  have hfa := all_fit hF
  have hpath : ∀ e ∈ rs, faultP e.path = 0 := fun e he => by
    obtain ⟨k, -, h2⟩ := (hm e).1 he
    obtain ⟨es, hes, hee, -⟩ := seeL_mem h2
    exact (hF es hes).path hee
  refine rise_ext hr2 hfa.fit.rise (fun q => ?_)
  by_cases hq : faultP q = 0
  · rw [all_find hF h4 hq]
    unfold sawE
    cases hs : seenL ls q with
    | none =>
      refine find_none (fun x hx => ?_)
      obtain ⟨e, he, rfl⟩ := List.mem_map.1 hx
      obtain ⟨k, h1, -⟩ := (hm e).1 he
      rw [asT_path]
      intro e1
      rw [e1, hs] at h1; cases h1
    | some k =>
      obtain ⟨-, e, he, -⟩ := seen_some (show seenG (seeL ls) q 4 = some k from hs)
      obtain ⟨-, -, -, hpe⟩ := seeL_mem he
      have hmem : e ∈ rs := (hm e).2 ⟨k, by rw [hpe]; exact hs, by rw [hpe]; exact he⟩
      have h1 := rise_find hr2 (List.mem_map.2 ⟨e, hmem, rfl⟩)
      rw [asT_path, hpe] at h1
      rw [h1]; simp [he]
  · rw [find_none, find_none]
    · intro x hx e1; rw [← e1] at hq; exact hq (hfa.fit.path hx)
    · intro x hx e1
      obtain ⟨e, he, rfl⟩ := List.mem_map.1 hx
      rw [asT_path] at e1
      rw [← e1] at hq; exact hq (hpath e he)
end Go.Proofs.YtejipahfodhmjaaGreat

namespace Go.Proofs.YtejipahfodhmjaaGreat
open Go.RowKit
set_option linter.unusedVariables false

theorem addr_add (b o j : Nat) : (⟨b, o, none⟩ : Addr).add j = ⟨b, o + j, none⟩ := by unfold Addr.add; split <;> simp_all
end Go.Proofs.YtejipahfodhmjaaGreat

