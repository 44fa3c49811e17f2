/-
  Texts put together: SeeC SeeE OvrD DrawF LazD OvrE LazE.
-/
import Derived.Test.YtejipahfodhmjaaGreatKLater9
import Derived.Test.YtejipahfodhmjaaGreatKLater5
import Derived.Maps.AppendAt
import Derived.Test.YtejipahfodhmjaaGreatKLater4
import Derived.Test.YtejipahfodhmjaaGreatKLater2
namespace Go.Proofs.YtejipahfodhmjaaGreat
open Go.RowKit Go.Maps
set_option linter.unusedVariables false
attribute [local go_sem ↓] Go.wp_at_zero Go.wp_at_succ

set_option maxRecDepth 100000 in
set_option maxHeartbeats 1600000 in
theorem hides_any (b N i : Nat) (p : Bs) (S : Nat → Bs → Option En) (w0 w : World) (h : SeeM w0 w b N S) (hi : i ≤ 100) (hp : p.length ≤ 1048576) :
    Calls Tryz.prog 133 #[.map (some b), .int .i64 i, .string (str p)] w fun r w' => r = .returned (.bool ((S i p).any fun e => !decide (e.kind = 2))) ∧ Below w.heap.size w w' := by
  cases hS : S i p with
  | none =>
    have HL := hide (h.no hi hp hS)
    clear h hS
    go_enter Tryz.func133, Tryz.ntmps133
    go_wp2_with (at_lookup; refine wpList_lookS rfl _ _ 83 true rfl _ _ _ rfl rfl HL.out ?_)
    go_ret
    exact ⟨rfl, below_alloc _ _⟩
  | some e =>
    obtain ⟨x, cc, hl, -, -⟩ := h.yes hi hp hS
    have HL := hide hl
    clear h hS hl
    by_cases hk : e.kind = 2
    · have hk' : (e.kind == 2) = true := by simpa using hk
      have HV := hide (show ((some e).any fun e => !decide (e.kind = 2)) = (e.kind != 2) by simp [hk])
      clear hk hk'
      unfold itV at HL
      go_enter Tryz.func133, Tryz.ntmps133
      go_wp2_with (at_lookup; refine wpList_lookS rfl _ _ 83 true rfl _ _ _ rfl rfl HL.out ?_)
      go_ret
      exact ⟨ret_bool HV.out.symm, below_alloc _ _⟩
    · have hk' : (e.kind == 2) = false := by simpa using hk
      have HV := hide (show ((some e).any fun e => !decide (e.kind = 2)) = (e.kind != 2) by simp [hk])
      clear hk hk'
      unfold itV at HL
      go_enter Tryz.func133, Tryz.ntmps133
      go_wp2_with (at_lookup; refine wpList_lookS rfl _ _ 83 true rfl _ _ _ rfl rfl HL.out ?_)
      go_ret
      exact ⟨ret_bool HV.out.symm, below_alloc _ _⟩

def AsksS (W0 : World) (fn : FuncId) (cap : Array Value) (f : Bs → Bool) : Prop :=
  (∀ args w, (callFunc fn args).run Tryz.prog w = .ok (.enter fn args) w) ∧ ∀ (s : Bs) (w : World), s.length ≤ 1048576 → Below W0.heap.size W0 w →
    Calls Tryz.prog fn (#[.string (str s)] ++ cap) w fun r w' => r = .returned (.bool (f s)) ∧ Below w.heap.size w w'

set_option maxRecDepth 100000 in
set_option maxHeartbeats 3200000 in
theorem indexFuncS_any (a : Option Addr) (c n : Nat) (ps : List Bs) (fn : FuncId) (cap : Array Value) (f : Bs → Bool) (w : World) (h : ReadsS w a ps) (hn : n = ps.length) (hl : ps.length ≤ 1048576) (hs : ∀ p ∈ ps, p.length ≤ 1048576) (hf : AsksS w fn cap f) :
    Calls Tryz.prog 159 #[.slice a n c, .func (.func fn) #[] cap] w fun r w' => ((∃ k : Nat, r = .returned (.int .i64 k) ∧ ps.any f = true) ∨ (r = .returned (.int .i64 (-1)) ∧ ps.any f = false)) ∧ Below w.heap.size w w' := by
  subst hn
  have eg := hf.1
  have HF := hide hf
  have HR := hide h
  have HS := hide hs
  clear h hf hs
  go_enter Tryz.func159, Tryz.ntmps159
  go_wp2_with fail
  go_loopw [8] (fun i wr => ∃ k : Nat, k ≤ ps.length ∧ i = .int .i64 k ∧ Hid (ps.any f = (ps.drop k).any f) ∧ Hid (Below w.heap.size w wr)) (fun i _ => ps.length - (intOf i).toNat)
  case atStart => exact ⟨0, Nat.zero_le _, rfl, hide (by simp), hide (Below.refl _ _)⟩
  case round =>
    obtain ⟨k, hk, rfl, HFi, HW⟩ := hrel
    by_cases hlt : k < ps.length
    · obtain ⟨b, off, rfl, hb, hc⟩ := (HR.out.below HW.out) (by intro e; simp [e] at hlt)
      have c0 := hc k hlt
      have hx : ps[k]? = some (ps.getD k []) := by rw [List.getD_eq_getElem?_getD, List.getElem?_eq_getElem hlt]; rfl
      have hd : ps.drop k = ps.getD k [] :: ps.drop (k + 1) := by
        rw [List.drop_eq_getElem_cons hlt]; congr 1; rw [List.getD_eq_getElem?_getD, List.getElem?_eq_getElem hlt]; rfl
      have hsm := HS.out _ (List.mem_of_getElem? hx)
      have HD := hide (HFi.out.trans (by rw [hd, List.any_cons]))
      clear hc hd hx
      generalize ps.getD k [] = q at *
      go_wp2_with fail
      refine (HF.out.2 q _ hsm HW.out).mono ?_
      rintro r w3 ⟨rfl, hb3⟩
      have B3 := hide (below_next HW.out hb3)
      clear hb3 c0
      cases hq : f q
      · have HN := hide (show ps.any f = (ps.drop (k + 1)).any f by rw [HD.out, hq, Bool.false_or])
        clear hq
        go_wp2_with fail
        go_roundw
        case rel => exact ⟨k + 1, by omega, by go_num, HN, B3⟩
        case measure => simp [intOf]; omega
      · have HN := hide (show ps.any f = true by rw [HD.out, hq, Bool.true_or])
        clear hq
        go_wp2_with fail
        go_ret
        exact ⟨.inl ⟨k, rfl, HN.out⟩, B3.out⟩
    · have HN := hide (show ps.any f = false by rw [HFi.out, List.drop_eq_nil_of_le (by omega)]; rfl)
      go_wp2_with fail
      go_ret
      exact ⟨.inr ⟨rfl, HN.out⟩, HW.out⟩
set_option maxRecDepth 100000 in
set_option maxHeartbeats 800000 in
theorem containsFuncS_any (a : Option Addr) (c n : Nat) (ps : List Bs) (fn : FuncId) (cap : Array Value) (f : Bs → Bool) (w : World) (h : ReadsS w a ps) (hn : n = ps.length) (hl : ps.length ≤ 1048576) (hs : ∀ p ∈ ps, p.length ≤ 1048576) (hf : AsksS w fn cap f) :
    Calls Tryz.prog 130 #[.slice a n c, .func (.func fn) #[] cap] w fun r w' => r = .returned (.bool (ps.any f)) ∧ Below w.heap.size w w' := by
  subst hn
  have HC := hide (indexFuncS_any a c ps.length ps fn cap f w h rfl hl hs hf)
  clear h hf hs
  go_enter Tryz.func130, Tryz.ntmps130
  go_wp2_with fail
  refine HC.out.mono ?_
  rintro r w1 ⟨(⟨k, rfl, hi⟩ | ⟨rfl, hi⟩), hb⟩
  · have hk0 : (0 : Int) ≤ (k : Int) := by omega
    have HI := hide hi
    have HB := hide hb
    clear hi hb HC
    go_wp2_with fail
    go_ret
    exact ⟨ret_bool HI.out.symm, HB.out⟩
  · have HI := hide hi
    have HB := hide hb
    clear hi hb HC
    go_wp2_with fail
    go_ret
    exact ⟨ret_bool HI.out.symm, HB.out⟩

set_option maxRecDepth 100000 in
set_option maxHeartbeats 800000 in
theorem hidesLit_any (b N i b1 b2 : Nat) (q : Bs) (S : Nat → Bs → Option En) (w0 w : World) (h : SeeM w0 w b N S) (hi : i ≤ 100) (hq : q.length ≤ 1048576) (h1 : w.cell? ⟨b1, 0, none⟩ = some (.map (some b))) (h2 : w.cell? ⟨b2, 0, none⟩ = some (.int .i64 i)) :
    Calls Tryz.prog 132 #[.string (str q), .pointer (some ⟨b1, 0, none⟩), .pointer (some ⟨b2, 0, none⟩)] w fun r w' => r = .returned (.bool ((S i q).any fun e => !decide (e.kind = 2))) ∧ Below w.heap.size w w' := by
  have HC := hide (hides_any b N i q S w0 w h hi hq)
  clear h
  go_enter Tryz.func132, Tryz.ntmps132
  go_wp2_with fail
  refine HC.out.mono ?_
  rintro r w1 ⟨rfl, hb⟩
  have HB := hide hb
  clear hb
  go_wp2_with fail
  go_ret
  exact ⟨rfl, HB.out⟩
set_option maxRecDepth 100000 in
set_option maxHeartbeats 1600000 in
theorem hidesAbove_any (b N i : Nat) (p : Bs) (S : Nat → Bs → Option En) (w0 w : World) (h : SeeM w0 w b N S) (hi : i ≤ 100) (hp : p.length ≤ 1048576) :
    Calls Tryz.prog 91 #[.map (some b), .int .i64 i, .string (str p)] w fun r w' => r = .returned (.bool ((above p).any fun q => (S i q).any fun e => !decide (e.kind = 2))) ∧ Below w.heap.size w w' := by
  have hmf : ∀ (fn : Fn) (first cap : Array Value) (w : World), (Instr.makeFunc fn first cap).run Tryz.prog w = .ok (.func fn first cap) w := fun _ _ _ _ => rfl
  have B0 := hide (below_next (below_alloc w (.cells #[.map (some b)] 83)) (below_alloc _ (.cells #[.int .i64 i] 3)))
  have HM := hide h
  clear h
  have hsz := str_size p
  go_enter Tryz.func91, Tryz.ntmps91
  go_wp2_with fail
  refine (implAboveOf_any (str p) _ (by omega)).mono ?_
  rintro r w1 ⟨av, cv, rfl, ho, hb⟩
  have B1 := hide (below_next B0.out hb)
  have RS := hide (OwnS.reads ho)
  have HM1 := hide (HM.out.below B1.out)
  have q1 : w1.cell? ⟨w.heap.size, 0, none⟩ = some (.map (some b)) := (hb.cell (p := ⟨w.heap.size, 0, none⟩) (by simp; omega)).trans (by simp)
  have q2 : w1.cell? ⟨w.heap.size + 1, 0, none⟩ = some (.int .i64 i) := (hb.cell (p := ⟨w.heap.size + 1, 0, none⟩) (by simp)).trans (by simp)
  have hsm : ∀ u ∈ above p, u.length ≤ 1048576 := by
    intro u hu
    by_cases hpf : faultP p = 0
    · have := above_small hpf u hu; omega
    · rw [above_bad hpf] at hu; simp at hu
  have HQ : Hid (AsksS w1 132 #[.pointer (some ⟨w.heap.size, 0, none⟩), .pointer (some ⟨w.heap.size + 1, 0, none⟩)] (fun q => (S i q).any fun e => !decide (e.kind = 2))) :=
    hide ⟨enters_of Tryz.func132 (by kernel_rfl) rfl, fun q w' hq hb' => hidesLit_any b N i w.heap.size (w.heap.size + 1) q S w0 w' (HM1.out.below hb') hi hq ((hb'.cell (p := ⟨w.heap.size, 0, none⟩) (World.block_lt_of_cell? w1 _ q1)).trans q1) ((hb'.cell (p := ⟨w.heap.size + 1, 0, none⟩) (World.block_lt_of_cell? w1 _ q2)).trans q2)⟩
  have HSD := hide (str_data p)
  rw [HSD.out] at RS ⊢
  have hal := above_len p
  have HCF := hide (containsFuncS_any av cv (above p).length (above p) _ _ _ w1 RS.out rfl (by omega) hsm HQ.out)
  clear ho hb q1 q2 hsm
  have hfield : ∀ (c v : Value) (w : World), (Instr.field 52 (.agg #[c, v]) 1).run Tryz.prog w = .ok v w := fun c v w => by kernel_rfl
  go_wp2_with fail
  refine HCF.out.mono ?_
  rintro r w2 ⟨rfl, hb2⟩
  have B2 := hide (below_next B1.out hb2)
  clear hb2
  go_wp2_with fail
  go_ret
  exact ⟨rfl, B2.out⟩
end Go.Proofs.YtejipahfodhmjaaGreat

namespace Go.Proofs.YtejipahfodhmjaaGreat
open Go.RowKit Go.Maps
set_option linter.unusedVariables false
attribute [local go_sem ↓] Go.wp_at_zero Go.wp_at_succ

def lsFrom : List (List En) → Int
  | [] => 0
  | es :: r => if layFaultP es = 0 then lsFrom r else layFaultP es
def layersP (ls : List (List En)) : Int := if 4 < ls.length then 2 else lsFrom ls
theorem lsFrom_zero : ∀ {ls : List (List En)}, lsFrom ls = 0 ↔ ∀ es ∈ ls, Right es
  | [] => by simp [lsFrom]
  | es :: r => by
    have ih := lsFrom_zero (ls := r)
    unfold lsFrom
    by_cases h : layFaultP es = 0
    · rw [if_pos h, ih]
      simp [right_P.1 h]
    · rw [if_neg h]
      constructor
      · intro h2; exact absurd h2 h
      · intro h2; exact absurd (right_P.2 (h2 es (by simp))) h
theorem layersP_zero {ls : List (List En)} : layersP ls = 0 ↔ ls.length ≤ 4 ∧ ∀ es ∈ ls, Right es := by
  unfold layersP
  by_cases h : 4 < ls.length
  · rw [if_pos h]; constructor
    · intro h2; cases h2
    · intro h2; omega
  · rw [if_neg h, lsFrom_zero]; constructor
    · intro h2; exact ⟨by omega, h2⟩
    · intro h2; exact h2.2
theorem lsFrom_bad {ls : List (List En)} {k : Nat} {es : List En} (he : ls[k]? = some es) (hf : layFaultP es ≠ 0) : lsFrom (ls.drop k) = layFaultP es := by
  obtain ⟨hk, hx⟩ := List.getElem?_eq_some_iff.1 he
  rw [List.drop_eq_getElem_cons hk, hx]
  simp [lsFrom, hf]
theorem lsFrom_next {ls : List (List En)} {k : Nat} {es : List En} (he : ls[k]? = some es) (hf : layFaultP es = 0) : lsFrom (ls.drop k) = lsFrom (ls.drop (k + 1)) := by
  obtain ⟨hk, hx⟩ := List.getElem?_eq_some_iff.1 he
  rw [List.drop_eq_getElem_cons hk, hx]
  simp [lsFrom, hf]
def SmallL (ls : List (List En)) : Prop := ∀ es ∈ ls, es.length ≤ 1048576 ∧ SmallE es

set_option maxRecDepth 100000 in
set_option maxHeartbeats 3200000 in
theorem implLayersFault_any (a : Option Addr) (c n : Nat) (ls : List (List En)) (w : World) (h : RdL w a ls) (hn : n = ls.length) (hl : ls.length ≤ 1048576) (hs : SmallL ls) :
    Calls Tryz.prog 60 #[.slice a n c] w fun r w' => r = .returned (.int .i64 (layersP ls)) ∧ Below w.heap.size w w' := by
  subst hn
  have HR := hide h
  have HS := hide hs
  clear h hs
  by_cases h4 : 4 < ls.length
  · have HZ := hide (show layersP ls = 2 by simp [layersP, h4])
    have h4' : (4 : Int) < (ls.length : Int) := by omega
    go_enter Tryz.func60, Tryz.ntmps60
    go_wp2_with fail
    go_ret
    exact ⟨by rw [HZ.out]; rfl, Below.refl _ _⟩
  · have HZ := hide (show layersP ls = lsFrom (ls.drop 0) by simp [layersP, h4])
    have h4' : ¬ (4 : Int) < (ls.length : Int) := by omega
    clear h4
    generalize layersP ls = V at *
    go_enter Tryz.func60, Tryz.ntmps60
    go_wp2_with fail
    go_loopw [11] (fun i wr => ∃ k : Nat, k ≤ ls.length ∧ i = .int .i64 k ∧ Hid (V = lsFrom (ls.drop k)) ∧ Hid (Below w.heap.size w wr)) (fun i _ => ls.length - (intOf i).toNat)
    case atStart => exact ⟨0, Nat.zero_le _, rfl, HZ, hide (Below.refl _ _)⟩
    case round =>
      obtain ⟨k, hk, rfl, HV, HW⟩ := hrel
      by_cases hlt : k < ls.length
      · obtain ⟨b, off, es, x, cc, rfl, hb, he, c0, hr⟩ := (HR.out.below HW.out).at hlt
        obtain ⟨hel, hsm⟩ := HS.out es (List.mem_of_getElem? he)
        have HLF := hide (implLayerFault_any x cc es.length es wr hr rfl (by omega) hsm)
        have HX := hide he
        clear he hr hsm
        by_cases hf : layFaultP es = 0
        · have HN := hide (HV.out.trans (lsFrom_next HX.out hf))
          rw [hf] at HLF
          clear hf
          go_wp2_with fail
          refine HLF.out.mono ?_
          rintro r w1 ⟨rfl, hb1⟩
          have B1 := hide (below_next HW.out hb1)
          clear hb1 c0
          go_wp2_with fail
          go_roundw
          case rel => exact ⟨k + 1, by omega, by go_num, HN, B1⟩
          case measure => simp [intOf]; omega
        · have HN := hide (HV.out.trans (lsFrom_bad HX.out hf))
          generalize layFaultP es = F at *
          have hf2 : (F != 0) = true := by simp; exact hf
          clear hf
          go_wp2_with fail
          refine HLF.out.mono ?_
          rintro r w1 ⟨rfl, hb1⟩
          have B1 := hide (below_next HW.out hb1)
          clear hb1 c0
          go_wp2_with fail
          go_ret
          exact ⟨by rw [HN.out]; rfl, B1.out⟩
      · have HN := hide (show V = 0 by rw [HV.out, List.drop_eq_nil_of_le (by omega)]; rfl)
        go_wp2_with fail
        go_ret
        exact ⟨by rw [HN.out]; rfl, HW.out⟩
def seenG (S : Nat → Bs → Option En) (p : Bs) : Nat → Option Nat
  | 0 => none
  | n + 1 => match S n p with
    | some e => if e.kind = 3 then none else some n
    | none => if (above p).any (fun q => (S n q).any fun e => !decide (e.kind = 2)) then none else seenG S p n
theorem seen_hit {S : Nat → Bs → Option En} {p : Bs} {n : Nat} {e : En} (h : S n p = some e) : seenG S p (n + 1) = if e.kind = 3 then none else some n := by simp [seenG, h]
theorem seen_hid {S : Nat → Bs → Option En} {p : Bs} {n : Nat} (h : S n p = none) (hh : ((above p).any fun q => (S n q).any fun e => !decide (e.kind = 2)) = true) : seenG S p (n + 1) = none := by simp [seenG, h, hh]
theorem seen_down {S : Nat → Bs → Option En} {p : Bs} {n : Nat} (h : S n p = none) (hh : ((above p).any fun q => (S n q).any fun e => !decide (e.kind = 2)) = false) : seenG S p (n + 1) = seenG S p n := by simp [seenG, h, hh]
def ResW (o : Option Nat) (p : Bs) (w : World) (r : Ending) (w' : World) : Prop :=
  (match o with
    | some n => r = .returned (.tuple #[spotV n p, .bool true])
    | none => ∃ v s, r = .returned (.tuple #[.agg #[.int .i64 v, .string s], .bool false])) ∧ Below w.heap.size w w'
end Go.Proofs.YtejipahfodhmjaaGreat

namespace Go.Proofs.YtejipahfodhmjaaGreat
open Go.RowKit Go.Maps
set_option linter.unusedVariables false
attribute [local go_sem ↓] Go.wp_at_zero Go.wp_at_succ

structure Ly where
  es : List En
  a : Option Addr
  c : Nat
def lyV (x : Ly) : Value := .slice x.a x.es.length x.c
theorem infoLs : (Tryz.prog.info? 35).map (fun i => (i.zero, i.size, i.bytes)) = some (some (.slice none 0 0), 1, 24) := by kernel_rfl
end Go.Proofs.YtejipahfodhmjaaGreat

namespace Go.Proofs.YtejipahfodhmjaaGreat
open Go.RowKit Go.Maps
set_option linter.unusedVariables false
attribute [local go_sem ↓] Go.wp_at_zero Go.wp_at_succ

theorem fileE_right {p : Bs} {zs : List Int} (hp : faultP p = 0) (hl : zs.length ≤ 24) : entFault (fileE p zs) = 0 := by
  have h1 : formE (fileE p zs) = true := decide_eq_true ⟨by simp [fileE], .inl rfl⟩
  have h2 : sizeE (fileE p zs) = true := decide_eq_true (by simp [fileE]; omega)
  have h3 : manyE (fileE p zs) = true := decide_eq_true (by show ((digs zs (cut zs).length).length : Int) = ((zs.length : Int) + 7) / 8; rw [digs_len, cut_length]; omega)
  rw [entFault_digs hp h1 h2 h3, if_pos]
  rw [List.all_eq_true]
  intro z hz
  simp only [fileE, digs, List.mem_map] at hz
  obtain ⟨i, _, rfl⟩ := hz
  exact decide_eq_true (digest_range _)
end Go.Proofs.YtejipahfodhmjaaGreat

namespace Go.Proofs.YtejipahfodhmjaaGreat
open Go.RowKit Go.Maps
set_option linter.unusedVariables false

theorem mem_set_of {es : List En} {k : Nat} {e0 e' d : En} (hk : es[k]? = some e0) (hd : d ∈ es) (hne : d ≠ e0) : d ∈ es.set k e' := by
  obtain ⟨i, hi, rfl⟩ := List.mem_iff_getElem.1 hd
  have hik : i ≠ k := fun e => by
    subst e
    rw [List.getElem?_eq_getElem hi] at hk
    exact hne (Option.some.inj hk)
  refine List.mem_iff_getElem.2 ⟨i, by rw [List.length_set]; exact hi, ?_⟩
  rw [List.getElem_set_ne (fun e => hik e.symm)]
theorem map_set_path {es : List En} {k : Nat} {e0 e' : En} (hk : es[k]? = some e0) (hp : e'.path = e0.path) : (es.set k e').map En.path = es.map En.path := by
  apply List.ext_getElem?
  intro j
  rw [List.getElem?_map, List.getElem?_map, List.getElem?_set]
  by_cases h : k = j
  · subst h
    have hlt := (List.getElem?_eq_some_iff.1 hk).1
    rw [if_pos rfl, if_pos hlt, hk]
    simp [hp]
  · rw [if_neg h]
theorem rise_map {es : List En} : Rise es ↔ (es.map En.path).Pairwise (fun x y => Op.bytesLess x y = true) := by
  unfold Rise
  rw [List.pairwise_map]
theorem Right.set_file {es : List En} {k : Nat} {e0 : En} {zs : List Int} (h : Right es) (hk : es[k]? = some e0) (h1 : e0.kind = 1) (hz : zs.length ≤ 24) : Right (es.set k (fileE e0.path zs)) := by
  have hm := List.mem_of_getElem? hk
  have hpath := entFault_zero (h.ent e0 hm)
  refine ⟨by rw [List.length_set]; exact h.len, fun x hx => ?_, ?_, fun x hx => ?_⟩
  · rcases List.mem_or_eq_of_mem_set hx with hx | rfl
    · exact h.ent x hx
    · exact fileE_right hpath hz
  · rw [rise_map, map_set_path (e' := fileE e0.path zs) hk rfl, ← rise_map]
    exact h.rise
  · have hxp : ∃ y ∈ es, y.path = x.path := by
      rcases List.mem_or_eq_of_mem_set hx with hx | rfl
      · exact ⟨x, hx, rfl⟩
      · exact ⟨e0, hm, rfl⟩
    obtain ⟨y, hy, hyp⟩ := hxp
    have hh := h.home y hy
    rw [hyp] at hh
    rcases homeP_iff.1 hh with h0 | ⟨d, hd, hdp, hdk⟩
    · exact homeP_iff.2 (.inl h0)
    · refine homeP_iff.2 (.inr ⟨d, mem_set_of hk hd (fun e => ?_), hdp, hdk⟩)
      subst e
      rw [h1] at hdk
      exact absurd hdk (by decide)
def ShE (es : List En) : Prop := Right es ∨ (∃ es0 e, Right es0 ∧ es = es0 ++ [e]) ∨ (∃ r0 e tl, Right (r0 :: tl) ∧ es = e :: tl) ∨ es = List.replicate 13 zEn
theorem ShE.goodH {es : List En} (h : ShE es) : GoodH es := by
  rcases h with h | ⟨es0, e, h, rfl⟩ | ⟨r0, e, tl, h, rfl⟩ | rfl
  · exact goodH_rise h.rise
  · exact goodH_snoc h.rise h.home
  · exact goodH_set h
  · exact goodH_first (e := zEn) (tl := List.replicate 12 zEn) (by decide)
theorem ShE.set {es : List En} {k : Nat} {e0 : En} {zs : List Int} (h : ShE es) (hk : es[k]? = some e0) (h1 : e0.kind = 1) (hz : zs.length ≤ 24) : ShE (es.set k (fileE e0.path zs)) := by
  rcases h with h | ⟨es0, e, h, rfl⟩ | ⟨r0, e, tl, h, rfl⟩ | rfl
  · exact .inl (h.set_file hk h1 hz)
  · by_cases hlt : k < es0.length
    · rw [List.getElem?_append_left hlt] at hk
      refine .inr (.inl ⟨_, e, h.set_file hk h1 hz, ?_⟩)
      rw [List.set_append_left _ _ hlt]
    · refine .inr (.inl ⟨es0, fileE e0.path zs, h, ?_⟩)
      have hk2 : k = es0.length := by
        have := (List.getElem?_eq_some_iff.1 hk).1
        rw [List.length_append] at this
        simp at this
        omega
      subst hk2
      rw [List.set_append_right _ _ (Nat.le_refl _)]
      simp
  · cases k with
    | zero => exact .inr (.inr (.inl ⟨r0, fileE e0.path zs, tl, h, rfl⟩))
    | succ k =>
      refine .inr (.inr (.inl ⟨r0, e, tl.set k (fileE e0.path zs), ?_, rfl⟩))
      have hk2 : (r0 :: tl)[k + 1]? = some e0 := by simpa using hk
      exact h.set_file hk2 h1 hz
  · have := List.mem_of_getElem? hk
    rw [(List.mem_replicate.1 this).2] at h1
    exact absurd h1 (by decide)
theorem fileE_chunks {p : Bs} {zs : List Int} (hz : zs.length ≤ 24) : (fileE p zs).chunks.length ≤ 3 := by
  unfold fileE
  simp only
  rw [digs_length, cut_length]
  omega
def LyS (es : List En) : Prop := ShE es ∧ es.length ≤ 13 ∧ SmallE es
theorem LyS.set {es : List En} {k : Nat} {e0 : En} {zs : List Int} (h : LyS es) (hk : es[k]? = some e0) (h1 : e0.kind = 1) (hz : zs.length ≤ 24) : LyS (es.set k (fileE e0.path zs)) := by
  refine ⟨h.1.set hk h1 hz, by rw [List.length_set]; exact h.2.1, fun x hx => ?_⟩
  rcases List.mem_or_eq_of_mem_set hx with hx | rfl
  · exact h.2.2 x hx
  · refine ⟨(h.2.2 e0 (List.mem_of_getElem? hk)).1, ?_⟩
    have := fileE_chunks (p := e0.path) hz
    omega
theorem right_lyS {es : List En} (h : Right es) : LyS es := ⟨.inl h, by have := h.len; omega, right_small h⟩

def ApV (u v : Value) : Prop := ∀ g, u.ownBlock = some g → v.ownBlock ≠ some g
structure StL (lo : Nat) (w : World) (v : Value) (rs : List Ly) : Prop where
  row : w.ownsRow lo 35 1 v rs.length (rs.map lyV)
  each : ∀ (j : Nat) (x : Ly), rs[j]? = some x → ∃ qs : List Rw, qs.map Rw.e = x.es ∧ w.ownsRow lo 40 4 (lyV x) x.es.length (rowR qs) ∧ ∀ r ∈ qs, w.ownsRow lo 2 1 (.slice r.a r.e.chunks.length r.c) r.e.chunks.length (r.e.chunks.map (Value.int .i64))
  apart : (rs.map lyV).Pairwise ApV
theorem StL.kept {S : Nat → Prop} {lo : Nat} {w w' : World} {v : Value} {rs : List Ly} (h : StL lo w v rs) (hk : Kept S w w') (hS : ∀ b, S b → b < lo) : StL lo w' v rs := by
  have far : ∀ {e : TypeId} {s n : Nat} {u : Value} {xs : List Value}, w.ownsRow lo e s u n xs → w'.ownsRow lo e s u n xs := fun ho => ownsRow_kept ho hk (fun b hb e => by have := (ho.lt b hb).1; have := hS b e; omega)
  refine ⟨far h.row, fun j x hx => ?_, h.apart⟩
  obtain ⟨qs, h1, h2, h3⟩ := h.each j x hx
  exact ⟨qs, h1, far h2, fun r hr => far (h3 r hr)⟩
theorem StL.below {lo : Nat} {w w' : World} {v : Value} {rs : List Ly} (h : StL lo w v rs) (hk : Below w.heap.size w w') : StL lo w' v rs :=
  h.kept (S := fun _ => False) (Kept.of_below hk) (fun _ e => e.elim)
theorem StL.made (w : World) : StL w.heap.size (w.alloc (.cells #[] 35)) (.slice (some ⟨w.heap.size, 0, none⟩) 0 0) [] :=
  ⟨World.ownsRow_made w #[] 0 (Nat.le_refl _) (Nat.zero_le _) rfl, fun j x hx => by simp at hx, List.Pairwise.nil⟩
theorem StL.shape {lo : Nat} {w : World} {v : Value} {rs : List Ly} (h : StL lo w v rs) : ∃ a c, v = .slice a rs.length c := ownsRow_shape h.row
theorem StL.rd {lo : Nat} {w : World} {a : Option Addr} {n c : Nat} {rs : List Ly} (h : StL lo w (.slice a n c) rs) : RdL w a (rs.map Ly.es) := by
  intro hz
  have hne : rs ≠ [] := fun e => hz (by rw [e]; rfl)
  have hpos : 0 < rs.length := List.length_pos_iff.2 hne
  have hrow := h.row
  rcases hrow.2 with ⟨h', h0⟩ | ⟨g, cap, cur, h', hb, hgb, _⟩
  · omega
  · simp only [Value.slice.injEq] at h'
    obtain ⟨rfl, rfl, rfl⟩ := h'
    have hlt : g < w.heap.size := (Array.getElem?_eq_some_iff.1 hgb).1
    refine ⟨g, 0, fun i => ((rs[i]?).map Ly.a).getD none, fun i => ((rs[i]?).map Ly.c).getD 0, rfl, hlt, fun i es he => ?_⟩
    rw [List.getElem?_map] at he
    obtain ⟨x, hx, rfl⟩ := Option.map_eq_some_iff.1 he
    have hi : i < rs.length := (List.getElem?_eq_some_iff.1 hx).1
    simp only [hx, Option.map_some, Option.getD_some, Nat.zero_add]
    refine ⟨?_, ?_⟩
    · have := hrow.cellAt i (by omega)
      rw [this, List.getElem?_map, hx]; rfl
    · obtain ⟨qs, h1, h2, h3⟩ := h.each i x hx
      have hse : SE lo w (.slice x.a x.es.length x.c) x.es := ⟨qs, h1, h2, fun r hr => ownInts_reads (h3 r hr) rfl⟩
      exact hse.rd
theorem StL.snoc {lo : Nat} {w w2 : World} {v v' : Value} {rs : List Ly} {x : Ly} {B T : Nat} {o : Obj} (h : StL lo w v rs) (hlo : lo ≤ B) (hG : GE B T w (lyV x) x.es) (hold : ∀ y ∈ rs, ∀ g, (lyV y).ownBlock = some g → g < B)
    (hown : w2.ownsRow lo 35 1 v' (rs.length + 1) (rs.map lyV ++ [lyV x])) (hg : (w.alloc o).grownBy w2 v.ownBlock) : StL lo w2 v' (rs ++ [x]) := by
  have hk : Kept (fun b => v.ownBlock = some b) (w.alloc o) w2 := ⟨hg.os, hg.tape, hg.output, hg.size, fun k hk hn => hg.block k hk (fun e => hn e.symm)⟩
  have hrow := ownsRow_below h.row (below_alloc w o)
  have far : ∀ {e : TypeId} {s n : Nat} {u : Value} {xs : List Value}, 35 ≠ e → w.ownsRow lo e s u n xs → w2.ownsRow lo e s u n xs := fun hne ho => by
    have ho2 := ownsRow_below ho (below_alloc w o)
    exact ownsRow_kept ho2 hk (fun b hb e => ownsRow_apart hrow ho2 hne e hb)
  obtain ⟨ps, g1, g2, g3, g4, g5, g6⟩ := hG
  refine ⟨by simpa using hown, fun j y hy => ?_, ?_⟩
  · rcases Nat.lt_or_ge j rs.length with hj | hj
    · rw [List.getElem?_append_left hj] at hy
      obtain ⟨qs, h1, h2, h3⟩ := h.each j y hy
      exact ⟨qs, h1, far (by decide) h2, fun r hr => far (by decide) (h3 r hr)⟩
    · have hyx : y = x := by
        have := (List.getElem?_eq_some_iff.1 hy).1
        rw [List.length_append] at this
        simp at this
        have hj2 : j = rs.length := by omega
        subst hj2
        simpa using hy.symm
      subst hyx
      exact ⟨ps, g1, far (by decide) (ownsRow_mono g2 hlo), fun r hr => far (by decide) (ownsRow_mono (g3 r hr) hlo)⟩
  · rw [List.map_append, List.pairwise_append]
    refine ⟨h.apart, by simp, fun u hu z hz g hgu hgz => ?_⟩
    obtain ⟨y, hy, rfl⟩ := List.mem_map.1 hu
    have hzx : z = lyV x := by simpa using hz
    subst hzx
    have h1 := hold y hy g hgu
    have h2 := (g2.lt g hgz).1
    omega
theorem ownsRow_addrL {w : World} {B : Nat} {e : TypeId} {size n : Nat} {a : Option Addr} {c : Nat} {xs : List Value} (h : w.ownsRow B e size (.slice a n c) n xs) (hn : 0 < n) : ∃ g, a = some ⟨g, 0, none⟩ := by
  rcases h.2 with ⟨h', h0⟩ | ⟨g, cap, cur, h', _, _, hnc, _⟩
  · omega
  · simp only [Value.slice.injEq, true_and] at h'
    exact ⟨g, h'.1⟩
theorem StL.at {lo : Nat} {w : World} {a : Option Addr} {n c : Nat} {rs : List Ly} (h : StL lo w (.slice a n c) rs) {i k : Nat} {x : Ly} {e : En} (hx : rs[i]? = some x) (he : x.es[k]? = some e) :
    ∃ g G y yc, a = some ⟨g, 0, none⟩ ∧ g < w.heap.size ∧ w.cell? ⟨g, i, none⟩ = some (.slice (some ⟨G, 0, none⟩) x.es.length x.c) ∧ x.a = some ⟨G, 0, none⟩ ∧ lo ≤ G ∧ G < w.heap.size ∧ G ≠ g ∧
      w.cell? ⟨G, k * 4, none⟩ = some (.string (str e.path)) ∧ w.cell? ⟨G, k * 4 + 1, none⟩ = some (.int .i64 e.kind) ∧ w.cell? ⟨G, k * 4 + 2, none⟩ = some (.int .i64 e.size) ∧ w.cell? ⟨G, k * 4 + 3, none⟩ = some (.slice y e.chunks.length yc) ∧ (∀ j, w.frozen? ⟨G, j, none⟩ = false) := by
  have hi : i < rs.length := (List.getElem?_eq_some_iff.1 hx).1
  have hk : k < x.es.length := (List.getElem?_eq_some_iff.1 he).1
  have hrow := h.row
  obtain ⟨qs, h1, h2, h3⟩ := h.each i x hx
  rcases hrow.2 with ⟨h', h0⟩ | ⟨g, cap, cur, h', hb, hgb, _⟩
  · omega
  · simp only [Value.slice.injEq] at h'
    obtain ⟨rfl, rfl, rfl⟩ := h'
    obtain ⟨G, hG⟩ := ownsRow_addrL (show w.ownsRow lo 40 4 (.slice x.a x.es.length x.c) x.es.length (rowR qs) from h2) (by omega)
    have h2' := h2
    unfold lyV at h2'
    rw [hG] at h2'
    have hGl := h2'.lt G rfl
    have hql : qs.length = x.es.length := by rw [← h1, List.length_map]
    obtain ⟨r, hr⟩ : ∃ r, qs[k]? = some r := ⟨qs[k]'(by omega), List.getElem?_eq_getElem (by omega)⟩
    have hre : r.e = e := by
      have : (qs.map Rw.e)[k]? = some r.e := by rw [List.getElem?_map, hr]; rfl
      rw [h1, he] at this
      exact (Option.some.inj this).symm
    have cel : ∀ q, q < 4 → w.cell? ⟨G, k * 4 + q, none⟩ = (cellsR r)[q]? := fun q hq => by
      rw [h2'.cellAt (k * 4 + q) (by omega), rowR_get _ k q r hr hq]
    refine ⟨g, G, r.a, r.c, rfl, (Array.getElem?_eq_some_iff.1 hgb).1, ?_, hG, hGl.1, hGl.2, fun e9 => ?_, ?_, ?_, ?_, ?_, ?_⟩
    · have := hrow.cellAt i (by omega)
      rw [this, List.getElem?_map, hx]
      simp [lyV, hG]
    · subst e9
      exact ownsRow_apart hrow h2' (by decide) rfl rfl
    · have := cel 0 (by decide)
      rw [← hre]; simpa [cellsR] using this
    · have := cel 1 (by decide)
      rw [← hre]; simpa [cellsR] using this
    · have := cel 2 (by decide)
      rw [← hre]; simpa [cellsR] using this
    · have := cel 3 (by decide)
      rw [← hre]; simpa [cellsR] using this
    · intro j
      exact h2'.frozenAt j
theorem StL.store {lo : Nat} {w : World} {v : Value} {rs : List Ly} {i k G : Nat} {x : Ly} {e : En} {a : Option Addr} {cc : Nat} (h : StL lo w v rs) (hx : rs[i]? = some x) (hG : x.a = some ⟨G, 0, none⟩) (hk : k < x.es.length)
    (hown : w.ownsRow lo 2 1 (.slice a e.chunks.length cc) e.chunks.length (e.chunks.map (Value.int .i64))) :
    StL lo ((((w.setCell ⟨G, k * 4, none⟩ (.string (str e.path))).setCell ⟨G, k * 4 + 1, none⟩ (.int .i64 e.kind)).setCell ⟨G, k * 4 + 2, none⟩ (.int .i64 e.size)).setCell ⟨G, k * 4 + 3, none⟩ (.slice a e.chunks.length cc)) v (rs.set i ⟨x.es.set k e, x.a, x.c⟩) := by
  have hi : i < rs.length := (List.getElem?_eq_some_iff.1 hx).1
  have hsame : (rs.set i ⟨x.es.set k e, x.a, x.c⟩).map lyV = rs.map lyV := by
    apply List.ext_getElem?
    intro j
    rw [List.getElem?_map, List.getElem?_map, List.getElem?_set]
    by_cases hij : i = j
    · subst hij
      rw [if_pos rfl, if_pos hi, hx]
      simp [lyV]
    · rw [if_neg hij]
  obtain ⟨qs, h1, h2, h3⟩ := h.each i x hx
  have h2' := h2
  unfold lyV at h2'
  rw [hG] at h2'
  have hql : qs.length = x.es.length := by rw [← h1, List.length_map]
  have hkp : Kept (fun b => b = G) w ((((w.setCell ⟨G, k * 4, none⟩ (.string (str e.path))).setCell ⟨G, k * 4 + 1, none⟩ (.int .i64 e.kind)).setCell ⟨G, k * 4 + 2, none⟩ (.int .i64 e.size)).setCell ⟨G, k * 4 + 3, none⟩ (.slice a e.chunks.length cc)) :=
    Kept.setCell (S := fun b => b = G) (p := ⟨G, k * 4 + 3, none⟩) (Kept.setCell (S := fun b => b = G) (p := ⟨G, k * 4 + 2, none⟩) (Kept.two _ _ _ _ _ _) (fun _ => rfl) _) (fun _ => rfl) _
  have far : ∀ {t : TypeId} {s n : Nat} {u : Value} {xs : List Value}, 40 ≠ t → w.ownsRow lo t s u n xs → ((((w.setCell ⟨G, k * 4, none⟩ (.string (str e.path))).setCell ⟨G, k * 4 + 1, none⟩ (.int .i64 e.kind)).setCell ⟨G, k * 4 + 2, none⟩ (.int .i64 e.size)).setCell ⟨G, k * 4 + 3, none⟩ (.slice a e.chunks.length cc)).ownsRow lo t s u n xs := fun hne ho =>
    ownsRow_kept ho hkp (fun b hb hS => by subst hS; exact ownsRow_apart h2' ho hne rfl hb)
  refine ⟨?_, fun j y hy => ?_, by rw [hsame]; exact h.apart⟩
  · rw [List.length_set, hsame]
    exact far (by decide) h.row
  · rw [List.getElem?_set] at hy
    by_cases hij : i = j
    · rw [if_pos hij, if_pos (by omega)] at hy
      have hy2 := (Option.some.inj hy).symm
      subst hy2
      refine ⟨qs.set k ⟨e, a, cc⟩, by rw [List.map_set, h1], ?_, fun r hr => ?_⟩
      · have s1 := ((((h2'.stored (k * 4) (.string (str e.path))).1.stored (k * 4 + 1) (.int .i64 e.kind)).1.stored (k * 4 + 2) (.int .i64 e.size)).1.stored (k * 4 + 3) (.slice a e.chunks.length cc)).1
        rw [rowR_set4 qs k ⟨e, a, cc⟩ (by omega)] at s1
        unfold lyV
        rw [hG, List.length_set]
        exact s1
      · rcases List.mem_or_eq_of_mem_set hr with hr | rfl
        · exact far (by decide) (h3 r hr)
        · exact far (by decide) hown
    · rw [if_neg hij] at hy
      obtain ⟨qs2, j1, j2, j3⟩ := h.each j y hy
      refine ⟨qs2, j1, ownsRow_kept j2 hkp (fun b hb hS => ?_), fun r hr => far (by decide) (j3 r hr)⟩
      subst hS
      have hxG : (lyV x).ownBlock = some b := by unfold lyV; rw [hG]; rfl
      have hj : j < rs.length := (List.getElem?_eq_some_iff.1 hy).1
      have e1 : (rs.map lyV)[i]'(by simpa using hi) = lyV x := by simp [(List.getElem?_eq_some_iff.1 hx).2]
      have e2 : (rs.map lyV)[j]'(by simpa using hj) = lyV y := by simp [(List.getElem?_eq_some_iff.1 hy).2]
      rcases Nat.lt_or_gt_of_ne hij with hlt | hlt
      · have := List.pairwise_iff_getElem.1 h.apart i j (by simpa using hi) (by simpa using hj) hlt
        rw [e1, e2] at this
        exact this b hxG hb
      · have := List.pairwise_iff_getElem.1 h.apart j i (by simpa using hj) (by simpa using hi) hlt
        rw [e1, e2] at this
        exact this b hb hxG
end Go.Proofs.YtejipahfodhmjaaGreat

namespace Go.Proofs.YtejipahfodhmjaaGreat
open Go.RowKit Go.Maps
set_option linter.unusedVariables false
attribute [local go_sem ↓] Go.wp_at_zero Go.wp_at_succ

theorem kept_append {p : Nat} {w wr w2 w3 : World} {o : Obj} {row : Option Nat} (h1 : Kept (fun b => b = p) w wr) (h2 : Kept (fun b => b = p) wr w2) (h3 : (w2.alloc o).grownBy w3 row) (hr : ∀ g, row = some g → w.heap.size ≤ g) : Kept (fun b => b = p) w w3 := by
  have hA := below_alloc w2 o
  refine ⟨h3.os.trans (hA.os.trans (h2.os.trans h1.os)), h3.tape.trans (hA.tape.trans (h2.tape.trans h1.tape)), h3.output.trans (hA.output.trans (h2.output.trans h1.output)), Nat.le_trans h1.size (Nat.le_trans h2.size (Nat.le_trans hA.size h3.size)), fun k hk hn => ?_⟩
  have e1 := h1.size
  have e2 := h2.size
  have e3 := hA.size
  exact (h3.block k (by omega) (fun e => by have := hr k e.symm; omega)).trans ((hA.block k (by omega)).trans ((h2.block k (by omega) hn).trans (h1.block k hk hn)))
theorem src_append {p : Nat} {w2 w3 : World} {zs : List Int} {T : Int} {o : Obj} {row : Option Nat} (h : SrcX w2 p zs T) (h3 : (w2.alloc o).grownBy w3 row) (hr : ∀ g, row = some g → p < g) : SrcX w3 p zs T :=
  (h.below (below_alloc w2 o)).kept (S := fun b => row = some b) ⟨h3.os, h3.tape, h3.output, h3.size, fun k hk hn => h3.block k hk (fun e => hn e.symm)⟩ (fun b hb e => by have := hr b e; omega)
end Go.Proofs.YtejipahfodhmjaaGreat

namespace Go.Proofs.YtejipahfodhmjaaGreat
open Go.RowKit Go.Maps
set_option linter.unusedVariables false
attribute [local go_sem ↓] Go.wp_at_zero Go.wp_at_succ

theorem StL.lt {lo : Nat} {w : World} {v : Value} {rs : List Ly} (h : StL lo w v rs) : ∀ y ∈ rs, ∀ g, (lyV y).ownBlock = some g → g < w.heap.size := fun y hy g hg => by
  obtain ⟨j, hj, rfl⟩ := List.mem_iff_getElem.1 hy
  obtain ⟨qs, -, h2, -⟩ := h.each j _ (List.getElem?_eq_getElem hj)
  exact (h2.lt g hg).2
def LaySD (w : World) (p : Nat) (zs : List Int) (T : Int) (es : List En) (v : Value) (w' : World) : Prop :=
  ShE es ∧ es.length ≤ 13 ∧ SmallE es ∧ GE w.heap.size w'.heap.size w' v es ∧ SrcX w' p zs T ∧ Kept (fun b => b = p) w w'
def LaysS (w : World) (p : Nat) (zs : List Int) (T : Int) (v : Value) (rs : List Ly) (w' : World) : Prop :=
  rs.length ≤ 5 ∧ (∀ x ∈ rs, LyS x.es) ∧ StL w.heap.size w' v rs ∧ SrcX w' p zs T ∧ Kept (fun b => b = p) w w'
set_option maxRecDepth 100000 in
set_option maxHeartbeats 6400000 in
theorem bentLay_s (p : Nat) (zs : List Int) (T : Int) (w : World) (h : SrcX w p zs T) (hu : U8 zs) (hT : T ≤ 100000) (hl : zs.length ≤ 2097152) :
    Calls Tryz.prog 150 #[.pointer (some ⟨p, 0, none⟩)] w fun r w' => ∃ (es : List En) (av : Option Addr) (cv : Nat), r = .returned (.slice av es.length cv) ∧ LaySD w p zs (T + 1100) es (.slice av es.length cv) w' := by
  obtain ⟨i1, ki, kz0, kz1, kz2⟩ := info_parts Tryz.infoEn
  have hp := h.lt
  have HS := hide h
  have HU := hide hu
  clear h hu
  go_enter Tryz.func150, Tryz.ntmps150
  go_wp2_with fail
  refine (right_e p zs T _ HS.out HU.out (by omega) hl).mono ?_
  rintro r w1 ⟨es, lv, lc, rfl, hR, hG1, s1, k1⟩
  have HRi := hide hR
  have G1 := hide hG1
  have S1 := hide s1
  have K1 := hide k1
  clear hR hG1 s1 k1 HS
  go_wp2_with fail
  refine (next_e p zs _ 16 _ S1.out HU.out (by omega) (by decide) (by decide) hl).mono ?_
  rintro r w2 ⟨i, rfl, hi, s2, k2⟩
  have S2 := hide s2
  have K2 := hide (K1.out.trans k2)
  have G2 := hide (G1.out.keptP k2 hp)
  have hl12 := HRi.out.len
  have hsz2 := K2.out.size
  clear s2 k2 G1 S1 K1
  by_cases h0 : i = 0
  · subst h0
    go_wp2_with fail
    refine (bentEntry_e p zs _ _ S2.out HU.out (by omega) hl).mono ?_
    rintro r w3 ⟨e, a, c, rfl, ⟨hel, hec⟩, ho3, s3, k3⟩
    have G3 := hide (G2.out.kept k3 (fun b h1 _ e => by omega))
    have S3 := hide s3
    have K3 := hide (K2.out.trans k3)
    have O3 := hide ho3
    have hs3 := k3.size
    clear ho3 s3 k3
    obtain ⟨rs, g1, g2, g3, g4, g5, g6⟩ := G3.out
    have Q1 := hide g1
    have Q2 := hide g2
    have Q3 := hide g3
    have Q4 := hide g4
    have Q5 := hide g5
    clear g1 g2 g3 g4 g5 g6
    have hm1 : es.length + 1 ≤ maxLen := by unfold maxLen; omega
    have hm1' : (es.length + 1) * 56 ≤ 140737488355328 := by omega
    go_wp2_with (at_builtin; refine wpList_append_put rfl (.tmp 10) (.tmp 13) 35 rfl w.heap.size 40 i1 (.agg #[.string ⟨#[]⟩, .int .i64 0, .int .i64 0, .slice none 0 0]) 4 56 Tryz.underlying35 ki kz0 kz1 kz2 rfl (by decide) _ _ _ rfl Q2.out _ rfl rfl rfl (by intro u hu; simp at hu; rcases hu with rfl | rfl | rfl | rfl <;> rfl) hm1 hm1' (by omega) ?_; intro av4 cv4 w4 hown4 hk4; have O4 := hide hown4; have K4 := hide hk4; clear hown4 hk4)
    go_ret
    refine ⟨es ++ [e], av4, cv4, by rw [List.length_append]; rfl, (.inr (.inl ⟨es, e, HRi.out, rfl⟩)), by rw [List.length_append]; simp; omega, fun y hy => ?_, ?_, ?_, ?_⟩
    · rcases List.mem_append.1 hy with hy | hy
      · exact right_small HRi.out y hy
      · simp only [List.mem_singleton] at hy; subst hy; omega
    · rw [List.length_append]
      exact GE.push2 Q1.out Q2.out Q3.out Q4.out Q5.out (by omega) (by omega) O3.out O4.out K4.out
    · exact (S3.out.kept K4.out (fun b hb e => by have := (Q2.out.lt b e).1; omega)).mono (by omega)
    · exact K3.out.trans_own K4.out (fun b hb e => by have := (Q2.out.lt b e).1; omega)
  · by_cases h1 : i = 1
    · subst h1
      by_cases hpos : 0 < es.length
      · have hpos' : (0 : Int) < (es.length : Int) := by omega
        obtain ⟨g, rfl, -⟩ := G2.out.addr rfl (.inl hpos)
        go_wp2_with fail
        refine (bentEntry_e p zs _ _ S2.out HU.out (by omega) hl).mono ?_
        rintro r w3 ⟨e, a, c, rfl, ⟨hel, hec⟩, ho3, s3, k3⟩
        have G3 := hide (G2.out.kept k3 (fun b h1 _ e => by omega))
        have S3 := hide s3
        have K3 := hide (K2.out.trans k3)
        have O3 := hide ho3
        have hs3 := k3.size
        clear ho3 s3 k3
        have he0 : es[0]? = some es[0] := List.getElem?_eq_getElem hpos
        obtain ⟨G, x', y', hGe, hg1, hg2, m0, m1, m2, m3, mf, -⟩ := G3.out.open he0
        simp only [Option.some.injEq, Addr.mk.injEq, and_true] at hGe
        subst hGe
        have mf0 := mf 0
        have mf1 := mf 1
        have mf2 := mf 2
        have mf3 := mf 3
        simp only [Nat.zero_mul, Nat.zero_add] at m0 m1 m2 m3
        generalize es[0] = z0 at *
        clear mf he0
        have HST := hide (GE.store2 (j := 0) G3.out rfl hpos (by omega) (by omega) O3.out)
        simp only [Nat.zero_mul, Nat.zero_add] at HST
        go_wp2_with fail
        go_ret
        have hk : Kept (fun b => b = g) w3 ((((w3.setCell ⟨g, 0, none⟩ (.string (str e.path))).setCell ⟨g, 1, none⟩ (.int .i64 e.kind)).setCell ⟨g, 2, none⟩ (.int .i64 e.size)).setCell ⟨g, 3, none⟩ (.slice a e.chunks.length c)) :=
          Kept.setCell (S := fun b => b = g) (p := ⟨g, 3, none⟩) (Kept.setCell (S := fun b => b = g) (p := ⟨g, 2, none⟩) (Kept.two _ _ _ _ _ _) (fun _ => rfl) _) (fun _ => rfl) _
        have hgood : ShE (es.set 0 e) := by
          cases hes : es with
          | nil => rw [hes] at hpos; simp at hpos
          | cons r0 tl =>
            have := HRi.out
            rw [hes] at this
            exact .inr (.inr (.inl ⟨r0, e, tl, this, rfl⟩))
        refine ⟨es.set 0 e, some ⟨g, 0, none⟩, lc, by rw [List.length_set]; rfl, hgood, by rw [List.length_set]; omega, fun y hy => ?_, ?_, ?_, ?_⟩
        · rcases List.mem_or_eq_of_mem_set hy with hy | rfl
          · exact right_small HRi.out y hy
          · omega
        · rw [List.length_set]
          simpa [World.setCell] using HST.out
        · exact (S3.out.kept hk (fun b hb e => by omega)).mono (by omega)
        · exact K3.out.trans_own hk (fun b hb e => by omega)
      · have hpos' : ¬ (0 : Int) < (es.length : Int) := by omega
        go_wp2_with fail
        go_ret
        exact ⟨es, lv, lc, rfl, (.inl HRi.out), by omega, right_small HRi.out, G2.out, S2.out.mono (by omega), K2.out⟩
    · by_cases h2 : i = 2
      · subst h2
        have hby : i1.bytes * 13 ≤ 281474976710656 := by rw [kz2]; omega
        have hml : 13 ≤ maxLen := by unfold maxLen; omega
        go_wp2_with (at_make; refine wpList_make_full _ rfl (.const (.int .i64 13)) (.const (.int .i64 13)) 35 rfl w2.heap.size 40 i1 (.agg #[.string ⟨#[]⟩, .int .i64 0, .int .i64 0, .slice none 0 0]) 4 Tryz.underlying35 ki kz0 kz1 .i64 .i64 _ _ 13 rfl rfl rfl rfl hby hml (Nat.le_refl _) ?_; intro w3 ho3 hg3; have O3 := hide ho3; have GW := hide hg3; clear ho3 hg3)
        have B3 : Hid (Below w2.heap.size w2 w3) := (Below.refl _ _).grown GW.out (Nat.le_refl _) (fun k hk => by simp at hk)
        have G3 := hide (GE.mono (B' := w.heap.size) (GE.zeros (T := w3.heap.size) O3.out (fun b hb => (O3.out.lt b hb).2)) (by omega))
        have hlr : (List.replicate 13 zEn).length = 13 := by simp
        go_wp2_with fail
        go_ret
        refine ⟨List.replicate 13 zEn, some ⟨w2.heap.size, 0, none⟩, 13, by rw [hlr]; rfl, (.inr (.inr (.inr rfl))), by rw [hlr]; decide, fun y hy => ?_, by rw [hlr]; exact G3.out, (S2.out.below B3.out).mono (by omega), K2.out.trans (Kept.of_below B3.out)⟩
        rw [(List.mem_replicate.1 hy).2]
        simp [zEn]
      · have e0 : ((i : Int) == 0) = false := by simp; omega
        have e1 : ((i : Int) == 1) = false := by simp; omega
        have e2 : ((i : Int) == 2) = false := by simp; omega
        clear h0 h1 h2
        go_wp2_with fail
        go_ret
        exact ⟨es, lv, lc, rfl, (.inl HRi.out), by omega, right_small HRi.out, G2.out, S2.out.mono (by omega), K2.out⟩
set_option maxRecDepth 100000 in
set_option maxHeartbeats 6400000 in
theorem l7Layers_s (p : Nat) (zs : List Int) (T : Int) (w : World) (h : SrcX w p zs T) (hu : U8 zs) (hT : T ≤ 50000) (hl : zs.length ≤ 2097152) :
    Calls Tryz.prog 114 #[.pointer (some ⟨p, 0, none⟩)] w fun r w' => ∃ v rs, r = .returned v ∧ LaysS w p zs (T + 6000) v rs w' := by
  obtain ⟨i1, ki, kz0, kz1, kz2⟩ := info_parts infoLs
  have hp := h.lt
  have HU := hide hu
  have O0 := hide (StL.made w)
  have K0 := hide ((Kept.refl (fun b => b = p) w).alloc (.cells #[] 35))
  have K1 := hide (K0.out.alloc (.cells #[.int .i64 1, .int .i64 2, .int .i64 3, .int .i64 2, .int .i64 3, .int .i64 0] 2))
  have O1 := hide (O0.out.below (below_alloc _ (.cells #[.int .i64 1, .int .i64 2, .int .i64 3, .int .i64 2, .int .i64 3, .int .i64 0] 2)))
  have S1 := hide ((h.below (below_alloc w (.cells #[] 35))).below (below_alloc _ (.cells #[.int .i64 1, .int .i64 2, .int .i64 3, .int .i64 2, .int .i64 3, .int .i64 0] 2)))
  have CC := hide (show ∀ i, i < 6 → ((w.alloc (.cells #[] 35)).alloc (.cells #[.int .i64 1, .int .i64 2, .int .i64 3, .int .i64 2, .int .i64 3, .int .i64 0] 2)).cell? ⟨w.heap.size + 1, i, none⟩ = some (.int .i64 (([1, 2, 3, 2, 3, 0] : List Int).getD i 0)) from fun i hi => by
    have : i = 0 ∨ i = 1 ∨ i = 2 ∨ i = 3 ∨ i = 4 ∨ i = 5 := by omega
    have hs : (w.alloc (.cells #[] 35)).heap.size = w.heap.size + 1 := by simp
    rw [← hs]
    rcases this with rfl | rfl | rfl | rfl | rfl | rfl <;> simp)
  have hgl : w.heap.size + 1 < ((w.alloc (.cells #[] 35)).alloc (.cells #[.int .i64 1, .int .i64 2, .int .i64 3, .int .i64 2, .int .i64 3, .int .i64 0] 2)).heap.size := by simp
  clear h hu K0 O0
  go_enter Tryz.func114, Tryz.ntmps114
  go_wp2_with fail
  generalize (w.alloc (.cells #[] 35)).alloc (.cells #[.int .i64 1, .int .i64 2, .int .i64 3, .int .i64 2, .int .i64 3, .int .i64 0] 2) = W1 at *
  refine (pick_e p (w.heap.size + 1) 6 6 [1, 2, 3, 2, 3, 0] zs T W1 S1.out HU.out (by omega) hl (by decide) (by decide) rfl (by omega) hgl CC.out).mono ?_
  rintro r w2 ⟨kv, hkv, rfl, s2, k2⟩
  obtain ⟨k0, hk0, rfl⟩ : ∃ k0 : Nat, k0 ≤ 3 ∧ kv = k0 := ⟨kv.toNat, by simp at hkv; omega, by simp at hkv; omega⟩
  have S2 := hide s2
  have O2 := hide (O1.out.kept k2 (fun b e => by omega))
  have K2 := hide (K1.out.trans k2)
  clear s2 k2 O1 K1 S1 CC hkv hgl
  go_wp2_with fail
  go_loopw [3, 4] (fun v i wr => ∃ (k : Nat) (rs : List Ly), i = .int .i64 k ∧ rs.length + k ≤ 3 ∧ Hid (StL w.heap.size wr v rs) ∧ Hid (∀ x ∈ rs, Right x.es) ∧ Hid (SrcX wr p zs (T + 1 + 1000 * rs.length)) ∧ Hid (Kept (fun b => b = p) w wr)) (fun _ i _ => (intOf i).toNat)
  case atStart => exact ⟨k0, [], rfl, by simpa using hk0, O2, hide (fun x hx => by simp at hx), hide (by simpa using S2.out), K2⟩
  case round =>
    obtain ⟨k, rs, rfl, hk3, HO, HRi, HS, HK⟩ := hrel
    obtain ⟨va, vc, rfl⟩ := HO.out.shape
    by_cases hk : 0 < k
    · have hk' : (0 : Int) < (k : Int) := by omega
      go_wp2_with fail
      refine (right_e p zs _ wr HS.out HU.out (by omega) hl).mono ?_
      rintro r w3 ⟨es, av, cv, rfl, hR, hG, s3, k3⟩
      have hpr : p < wr.heap.size := Nat.lt_of_lt_of_le hp HK.out.size
      have O3 := hide (HO.out.kept k3 (fun b e => by omega))
      have OA := hide ((O3.out.below (below_alloc w3 (.cells #[.slice av es.length cv] 35))).row)
      have hvl := HO.out.row.lt
      have hm1 : rs.length + 1 ≤ maxLen := by unfold maxLen; omega
      have hm2 : (rs.length + 1) * 24 ≤ 140737488355328 := by omega
      have hb3 : w.heap.size ≤ (w3.alloc (.cells #[.slice av es.length cv] 35)).heap.size := by have := HK.out.size; have := k3.size; simp; omega
      have G3 := hide hG
      have S3 := hide s3
      have K3 := hide k3
      clear hG s3 k3
      go_wp2_with (at_builtin; refine wpList_append_own_at _ rfl (.tmp 13) (.tmp 16) 24 rfl w.heap.size 35 i1 (.slice none 0 0) 1 24 Tryz.underlying24 ki kz0 kz1 kz2 rfl (by decide) _ _ _ rfl OA.out ⟨w3.heap.size, 0, none⟩ 1 1 [.slice av es.length cv] rfl rfl (cell_one_new _ _ _) (by intro u hu; simp at hu; subst hu; rfl) hm1 hm2 hb3 ?_; intro v' w4 hown4 hg4 hnil4 hblk4)
      have hO4 := O3.out.snoc (x := ⟨es, av, cv⟩) HK.out.size G3.out HO.out.lt hown4 hg4
      have hS4 := src_append S3.out hg4 (fun g hg => by have := (hvl g hg).1; omega)
      have hK4 := kept_append HK.out K3.out hg4 (fun g hg => (hvl g hg).1)
      have hS5 : SrcX w4 p zs (T + 1 + 1000 * ((rs ++ [(⟨es, av, cv⟩ : Ly)]).length : Int)) := by
        have e5 : T + 1 + 1000 * ((rs ++ [(⟨es, av, cv⟩ : Ly)]).length : Int) = T + 1 + 1000 * (rs.length : Int) + 1000 := by simp; omega
        rw [e5]; exact hS4
      have hR5 : ∀ x ∈ rs ++ [(⟨es, av, cv⟩ : Ly)], Right x.es := fun x hx => by
        rcases List.mem_append.1 hx with hx | hx
        · exact HRi.out x hx
        · simp only [List.mem_singleton] at hx; subst hx; exact hR
      have hk1 : ((k - 1 : Nat) : Int) = (k : Int) - 1 := by omega
      go_roundw
      case rel => exact ⟨k - 1, rs ++ [⟨es, av, cv⟩], by rw [hk1], by simp; omega, hide hO4, hide hR5, hide hS5, hide hK4⟩
      case measure => simp [intOf]; omega
    · have hk' : ¬ (0 : Int) < (k : Int) := by omega
      have hpr : p < wr.heap.size := Nat.lt_of_lt_of_le hp HK.out.size
      have HLy := hide (show ∀ x ∈ rs, LyS x.es from fun x hx => right_lyS (HRi.out x hx))
      go_wp2_with fail
      refine (next_e p zs _ 14 wr HS.out HU.out (by omega) (by decide) (by decide) hl).mono ?_
      rintro r w3 ⟨m, rfl, hm, s3, k3⟩
      have S3 := hide s3
      have O3 := hide (HO.out.kept k3 (fun b e => by omega))
      have K3 := hide (HK.out.trans k3)
      clear s3 k3 HO HK HS
      by_cases m0 : m = 0
      · subst m0
        go_wp2_with fail
        refine (bentLay_s p zs _ w3 S3.out HU.out (by omega) hl).mono ?_
        rintro r w4 ⟨es, av, cv, rfl, hgo, hle, hsm, hG, s4, k4⟩
        have hpr3 : p < w3.heap.size := Nat.lt_of_lt_of_le hp K3.out.size
        have O4 := hide (O3.out.kept k4 (fun b e => by omega))
        have OA := hide ((O4.out.below (below_alloc w4 (.cells #[.slice av es.length cv] 35))).row)
        have hvl := O3.out.row.lt
        have hm1 : rs.length + 1 ≤ maxLen := by unfold maxLen; omega
        have hm2 : (rs.length + 1) * 24 ≤ 140737488355328 := by omega
        have hb3 : w.heap.size ≤ (w4.alloc (.cells #[.slice av es.length cv] 35)).heap.size := by have := K3.out.size; have := k4.size; simp; omega
        have G4 := hide hG
        have S4 := hide s4
        have K4 := hide k4
        clear hG s4 k4
        go_wp2_with (at_builtin; refine wpList_append_own_at _ rfl (.tmp 22) (.tmp 25) 24 rfl w.heap.size 35 i1 (.slice none 0 0) 1 24 Tryz.underlying24 ki kz0 kz1 kz2 rfl (by decide) _ _ _ rfl OA.out ⟨w4.heap.size, 0, none⟩ 1 1 [.slice av es.length cv] rfl rfl (cell_one_new _ _ _) (by intro u hu; simp at hu; subst hu; rfl) hm1 hm2 hb3 ?_; intro v' w5 hown5 hg5 hnil5 hblk5)
        have hO5 := O4.out.snoc (x := ⟨es, av, cv⟩) K3.out.size G4.out O3.out.lt hown5 hg5
        have hS5 := src_append S4.out hg5 (fun g hg => by have := (hvl g hg).1; omega)
        have hK5 := kept_append K3.out K4.out hg5 (fun g hg => (hvl g hg).1)
        go_ret
        refine ⟨v', rs ++ [⟨es, av, cv⟩], rfl, by simp; omega, fun x hx => ?_, hO5, hS5.mono (by omega), hK5⟩
        rcases List.mem_append.1 hx with hx | hx
        · exact HLy.out x hx
        · simp only [List.mem_singleton] at hx; subst hx; exact ⟨hgo, hle, hsm⟩
      · have m0' : ¬ (m : Int) = 0 := by omega
        by_cases m1 : m = 1
        · subst m1
          have hby5 : i1.bytes * 5 ≤ 281474976710656 := by rw [kz2]; decide
          have hml5 : 5 ≤ maxLen := by unfold maxLen; decide
          go_wp2_with (first | (at_make; refine wpList_make_full _ rfl _ _ 24 rfl w.heap.size 35 i1 (.slice none 0 0) 1 Tryz.underlying24 ki kz0 kz1 .i64 .i64 _ _ 5 rfl rfl rfl rfl hby5 hml5 (by have := K3.out.size; omega) ?_; intro w4 ho4 hg4) | fail)
          go_ret
          have hB4 : Below w3.heap.size w3 w4 := ⟨hg4.os, hg4.tape, hg4.output, hg4.size, fun k hk => hg4.block k hk (by simp)⟩
          refine ⟨.slice (some ⟨w3.heap.size, 0, none⟩) 5 5, List.replicate 5 ⟨[], none, 0⟩, rfl, by simp, fun x hx => ?_, ⟨?_, fun j x hx => ?_, ?_⟩, (S3.out.below hB4).mono (by omega), K3.out.trans (Kept.of_below hB4)⟩
          · rw [(List.mem_replicate.1 hx).2]
            exact ⟨.inl ⟨by simp, by simp, List.Pairwise.nil, by simp⟩, by simp, fun e he => by simp at he⟩
          · have e5 : (madeCells (Value.slice none 0 0).cells (5 * 1)).toList = List.map lyV (List.replicate 5 ⟨[], none, 0⟩) := by
              first
                | kernel_rfl
                | simp [madeCells, lyV, Value.cells, List.replicate]
            rw [e5] at ho4
            exact ho4
          · have := List.mem_of_getElem? hx
            rw [(List.mem_replicate.1 this).2]
            exact ⟨[], rfl, World.ownsRow_nil _ _ _ _, fun r hr => by simp at hr⟩
          · have h0 : ∀ u ∈ List.map lyV (List.replicate 5 (⟨[], none, 0⟩ : Ly)), u.ownBlock = none := fun u hu => by
              obtain ⟨y, hy, rfl⟩ := List.mem_map.1 hu
              rw [(List.mem_replicate.1 hy).2]
              rfl
            rw [List.pairwise_iff_getElem]
            intro i j hi hj _ g hg
            rw [h0 _ (List.getElem_mem hi)] at hg
            cases hg
        · have m1' : ¬ (m : Int) = 1 := by omega
          go_wp2_with fail
          go_ret
          exact ⟨.slice va rs.length vc, rs, rfl, by omega, HLy.out, O3.out, S3.out.mono (by omega), K3.out⟩
end Go.Proofs.YtejipahfodhmjaaGreat

