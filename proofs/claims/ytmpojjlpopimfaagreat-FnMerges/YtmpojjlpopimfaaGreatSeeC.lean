/-
  The program's hides and hidesAbove.
-/
import Derived.Test.YtmpojjlpopimfaaGreatSeeA
import Derived.Test.YtmpojjlpopimfaaGreatOvrM
import Derived.Test.YtmpojjlpopimfaaGreatJ1
namespace Go.Proofs.YtmpojjlpopimfaaGreat
open Go.RowKit Go.Maps
set_option linter.unusedVariables false
attribute [local go_sem ↓] Go.wp_at_zero Go.wp_at_succ

set_option maxRecDepth 100000 in
set_option maxHeartbeats 1600000 in
theorem hides_any (b N i : Nat) (p : Bs) (S : Nat → Bs → Option En) (w0 w : World) (h : SeeM w0 w b N S) (hi : i ≤ 100) (hp : p.length ≤ 1048576) :
    Calls Tryz.prog 39 #[.map (some b), .int .i64 i, .string (str p)] w fun r w' => r = .returned (.bool ((S i p).any fun e => !decide (e.kind = 2))) ∧ Below w.heap.size w w' := by
  cases hS : S i p with
  | none =>
    have HL := hide (h.no hi hp hS)
    clear h hS
    go_enter Tryz.func39, Tryz.ntmps39
    go_wp2_with (at_lookup; refine wpList_lookS rfl _ _ 63 true rfl _ _ _ rfl rfl HL.out ?_)
    go_ret
    exact ⟨rfl, below_alloc _ _⟩
  | some e =>
    obtain ⟨x, cc, hl, -, -⟩ := h.yes hi hp hS
    have HL := hide hl
    clear h hS hl
    by_cases hk : e.kind = 2
    · have hk' : (e.kind == 2) = true := by simpa using hk
      have HV := hide (show ((some e).any fun e => !decide (e.kind = 2)) = (e.kind != 2) by simp [hk])
      clear hk hk'
      unfold itV at HL
      go_enter Tryz.func39, Tryz.ntmps39
      go_wp2_with (at_lookup; refine wpList_lookS rfl _ _ 63 true rfl _ _ _ rfl rfl HL.out ?_)
      go_ret
      exact ⟨ret_bool HV.out.symm, below_alloc _ _⟩
    · have hk' : (e.kind == 2) = false := by simpa using hk
      have HV := hide (show ((some e).any fun e => !decide (e.kind = 2)) = (e.kind != 2) by simp [hk])
      clear hk hk'
      unfold itV at HL
      go_enter Tryz.func39, Tryz.ntmps39
      go_wp2_with (at_lookup; refine wpList_lookS rfl _ _ 63 true rfl _ _ _ rfl rfl HL.out ?_)
      go_ret
      exact ⟨ret_bool HV.out.symm, below_alloc _ _⟩

/-- A closure that answers f of a text, in worlds that came of W0. -/
def AsksS (W0 : World) (fn : FuncId) (cap : Array Value) (f : Bs → Bool) : Prop :=
  (∀ args w, (callFunc fn args).run Tryz.prog w = .ok (.enter fn args) w) ∧ ∀ (s : Bs) (w : World), s.length ≤ 1048576 → Below W0.heap.size W0 w →
    Calls Tryz.prog fn (#[.string (str s)] ++ cap) w fun r w' => r = .returned (.bool (f s)) ∧ Below w.heap.size w w'

set_option maxRecDepth 100000 in
set_option maxHeartbeats 3200000 in
theorem indexFuncS_any (a : Option Addr) (c n : Nat) (ps : List Bs) (fn : FuncId) (cap : Array Value) (f : Bs → Bool) (w : World) (h : ReadsS w a ps) (hn : n = ps.length) (hl : ps.length ≤ 1048576) (hs : ∀ p ∈ ps, p.length ≤ 1048576) (hf : AsksS w fn cap f) :
    Calls Tryz.prog 135 #[.slice a n c, .func (.func fn) #[] cap] w fun r w' => ((∃ k : Nat, r = .returned (.int .i64 k) ∧ ps.any f = true) ∨ (r = .returned (.int .i64 (-1)) ∧ ps.any f = false)) ∧ Below w.heap.size w w' := by
  subst hn
  have eg := hf.1
  have HF := hide hf
  have HR := hide h
  have HS := hide hs
  clear h hf hs
  go_enter Tryz.func135, Tryz.ntmps135
  go_wp2_with fail
  go_loopw [8] (fun i wr => ∃ k : Nat, k ≤ ps.length ∧ i = .int .i64 k ∧ Hid (ps.any f = (ps.drop k).any f) ∧ Hid (Below w.heap.size w wr)) (fun i _ => ps.length - (intOf i).toNat)
  case atStart => exact ⟨0, Nat.zero_le _, rfl, hide (by simp), hide (Below.refl _ _)⟩
  case round =>
    obtain ⟨k, hk, rfl, HFi, HW⟩ := hrel
    by_cases hlt : k < ps.length
    · obtain ⟨b, off, rfl, hb, hc⟩ := (HR.out.below HW.out) (by intro e; simp [e] at hlt)
      have c0 := hc k hlt
      have hx : ps[k]? = some (ps.getD k []) := by rw [List.getD_eq_getElem?_getD, List.getElem?_eq_getElem hlt]; rfl
      have hd : ps.drop k = ps.getD k [] :: ps.drop (k + 1) := by
        rw [List.drop_eq_getElem_cons hlt]; congr 1; rw [List.getD_eq_getElem?_getD, List.getElem?_eq_getElem hlt]; rfl
      have hsm := HS.out _ (List.mem_of_getElem? hx)
      have HD := hide (HFi.out.trans (by rw [hd, List.any_cons]))
      clear hc hd hx
      generalize ps.getD k [] = q at *
      go_wp2_with fail
      refine (HF.out.2 q _ hsm HW.out).mono ?_
      rintro r w3 ⟨rfl, hb3⟩
      have B3 := hide (below_next HW.out hb3)
      clear hb3 c0
      cases hq : f q
      · have HN := hide (show ps.any f = (ps.drop (k + 1)).any f by rw [HD.out, hq, Bool.false_or])
        clear hq
        go_wp2_with fail
        go_roundw
        case rel => exact ⟨k + 1, by omega, by go_num, HN, B3⟩
        case measure => simp [intOf]; omega
      · have HN := hide (show ps.any f = true by rw [HD.out, hq, Bool.true_or])
        clear hq
        go_wp2_with fail
        go_ret
        exact ⟨.inl ⟨k, rfl, HN.out⟩, B3.out⟩
    · have HN := hide (show ps.any f = false by rw [HFi.out, List.drop_eq_nil_of_le (by omega)]; rfl)
      go_wp2_with fail
      go_ret
      exact ⟨.inr ⟨rfl, HN.out⟩, HW.out⟩
set_option maxRecDepth 100000 in
set_option maxHeartbeats 800000 in
theorem containsFuncS_any (a : Option Addr) (c n : Nat) (ps : List Bs) (fn : FuncId) (cap : Array Value) (f : Bs → Bool) (w : World) (h : ReadsS w a ps) (hn : n = ps.length) (hl : ps.length ≤ 1048576) (hs : ∀ p ∈ ps, p.length ≤ 1048576) (hf : AsksS w fn cap f) :
    Calls Tryz.prog 93 #[.slice a n c, .func (.func fn) #[] cap] w fun r w' => r = .returned (.bool (ps.any f)) ∧ Below w.heap.size w w' := by
  subst hn
  have HC := hide (indexFuncS_any a c ps.length ps fn cap f w h rfl hl hs hf)
  clear h hf hs
  go_enter Tryz.func93, Tryz.ntmps93
  go_wp2_with fail
  refine HC.out.mono ?_
  rintro r w1 ⟨(⟨k, rfl, hi⟩ | ⟨rfl, hi⟩), hb⟩
  · have hk0 : (0 : Int) ≤ (k : Int) := by omega
    have HI := hide hi
    have HB := hide hb
    clear hi hb HC
    go_wp2_with fail
    go_ret
    exact ⟨ret_bool HI.out.symm, HB.out⟩
  · have HI := hide hi
    have HB := hide hb
    clear hi hb HC
    go_wp2_with fail
    go_ret
    exact ⟨ret_bool HI.out.symm, HB.out⟩

set_option maxRecDepth 100000 in
set_option maxHeartbeats 800000 in
theorem hidesLit_any (b N i b1 b2 : Nat) (q : Bs) (S : Nat → Bs → Option En) (w0 w : World) (h : SeeM w0 w b N S) (hi : i ≤ 100) (hq : q.length ≤ 1048576) (h1 : w.cell? ⟨b1, 0, none⟩ = some (.map (some b))) (h2 : w.cell? ⟨b2, 0, none⟩ = some (.int .i64 i)) :
    Calls Tryz.prog 94 #[.string (str q), .pointer (some ⟨b1, 0, none⟩), .pointer (some ⟨b2, 0, none⟩)] w fun r w' => r = .returned (.bool ((S i q).any fun e => !decide (e.kind = 2))) ∧ Below w.heap.size w w' := by
  have HC := hide (hides_any b N i q S w0 w h hi hq)
  clear h
  go_enter Tryz.func94, Tryz.ntmps94
  go_wp2_with fail
  refine HC.out.mono ?_
  rintro r w1 ⟨rfl, hb⟩
  have HB := hide hb
  clear hb
  go_wp2_with fail
  go_ret
  exact ⟨rfl, HB.out⟩
set_option maxRecDepth 100000 in
set_option maxHeartbeats 1600000 in
theorem hidesAbove_any (b N i : Nat) (p : Bs) (S : Nat → Bs → Option En) (w0 w : World) (h : SeeM w0 w b N S) (hi : i ≤ 100) (hp : p.length ≤ 1048576) :
    Calls Tryz.prog 40 #[.map (some b), .int .i64 i, .string (str p)] w fun r w' => r = .returned (.bool ((above p).any fun q => (S i q).any fun e => !decide (e.kind = 2))) ∧ Below w.heap.size w w' := by
  have hmf : ∀ (fn : Fn) (first cap : Array Value) (w : World), (Instr.makeFunc fn first cap).run Tryz.prog w = .ok (.func fn first cap) w := fun _ _ _ _ => rfl
  have B0 := hide (below_next (below_alloc w (.cells #[.map (some b)] 63)) (below_alloc _ (.cells #[.int .i64 i] 3)))
  have HM := hide h
  clear h
  have hsz := str_size p
  go_enter Tryz.func40, Tryz.ntmps40
  go_wp2_with fail
  refine (implAboveOf_any (str p) _ (by omega)).mono ?_
  rintro r w1 ⟨av, cv, rfl, ho, hb⟩
  have B1 := hide (below_next B0.out hb)
  have RS := hide (OwnS.reads ho)
  have HM1 := hide (HM.out.below B1.out)
  have q1 : w1.cell? ⟨w.heap.size, 0, none⟩ = some (.map (some b)) := (hb.cell (p := ⟨w.heap.size, 0, none⟩) (by simp; omega)).trans (by simp)
  have q2 : w1.cell? ⟨w.heap.size + 1, 0, none⟩ = some (.int .i64 i) := (hb.cell (p := ⟨w.heap.size + 1, 0, none⟩) (by simp)).trans (by simp)
  have hsm : ∀ u ∈ above p, u.length ≤ 1048576 := by
    intro u hu
    by_cases hpf : faultP p = 0
    · have := above_small hpf u hu; omega
    · rw [above_bad hpf] at hu; simp at hu
  have HQ : Hid (AsksS w1 94 #[.pointer (some ⟨w.heap.size, 0, none⟩), .pointer (some ⟨w.heap.size + 1, 0, none⟩)] (fun q => (S i q).any fun e => !decide (e.kind = 2))) :=
    hide ⟨enters_of Tryz.func94 (by kernel_rfl) rfl, fun q w' hq hb' => hidesLit_any b N i w.heap.size (w.heap.size + 1) q S w0 w' (HM1.out.below hb') hi hq ((hb'.cell (p := ⟨w.heap.size, 0, none⟩) (World.block_lt_of_cell? w1 _ q1)).trans q1) ((hb'.cell (p := ⟨w.heap.size + 1, 0, none⟩) (World.block_lt_of_cell? w1 _ q2)).trans q2)⟩
  have HSD := hide (str_data p)
  rw [HSD.out] at RS ⊢
  have hal := above_len p
  have HCF := hide (containsFuncS_any av cv (above p).length (above p) _ _ _ w1 RS.out rfl (by omega) hsm HQ.out)
  clear ho hb q1 q2 hsm
  have hfield : ∀ (c v : Value) (w : World), (Instr.field 48 (.agg #[c, v]) 1).run Tryz.prog w = .ok v w := fun c v w => by kernel_rfl
  go_wp2_with fail
  refine HCF.out.mono ?_
  rintro r w2 ⟨rfl, hb2⟩
  have B2 := hide (below_next B1.out hb2)
  clear hb2
  go_wp2_with fail
  go_ret
  exact ⟨rfl, B2.out⟩
end Go.Proofs.YtmpojjlpopimfaaGreat
