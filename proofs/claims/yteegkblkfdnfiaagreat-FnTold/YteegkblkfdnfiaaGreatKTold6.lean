/-
  Texts put together: SeeB OvrM SeeC SeeE SeeF SeeG SeeH SeeI SeeK.
-/
import Derived.Test.YteegkblkfdnfiaaGreatKTold5
import Derived.Deep.RegionLaw
import Derived.Test.YteegkblkfdnfiaaGreatKTold2
import Derived.Test.YteegkblkfdnfiaaGreatKTold4
import Derived.Test.YteegkblkfdnfiaaGreatKTold3
import Derived.Shelf.SlMaps.Clone
import Derived.Lib.SlMapFilter
namespace Go.Proofs.YteegkblkfdnfiaaGreat
open Go.RowKit Go.Maps
set_option linter.unusedVariables false
attribute [local go_sem ↓] Go.wp_at_zero Go.wp_at_succ

def RdL (w : World) (a : Option Addr) (ls : List (List En)) : Prop :=
  ls ≠ [] → ∃ (b off : Nat) (A : Nat → Option Addr) (C : Nat → Nat), a = some ⟨b, off, none⟩ ∧ b < w.heap.size ∧ ∀ i es, ls[i]? = some es → w.cell? ⟨b, off + i, none⟩ = some (.slice (A i) es.length (C i)) ∧ RdE w (A i) es
theorem RdL.below {w w' : World} {a : Option Addr} {ls : List (List En)} (h : RdL w a ls) (hk : Below w.heap.size w w') : RdL w' a ls := by
  intro hz
  obtain ⟨b, off, A, C, e, hb, hc⟩ := h hz
  refine ⟨b, off, A, C, e, Nat.lt_of_lt_of_le hb hk.size, fun i es hx => ?_⟩
  obtain ⟨c0, r⟩ := hc i es hx
  exact ⟨(hk.cell (p := ⟨b, off + i, none⟩) hb).trans c0, r.below hk⟩
theorem RdL.at {w : World} {a : Option Addr} {ls : List (List En)} (h : RdL w a ls) {k : Nat} (hk : k < ls.length) :
    ∃ b off es x c, a = some ⟨b, off, none⟩ ∧ b < w.heap.size ∧ ls[k]? = some es ∧ w.cell? ⟨b, off + k, none⟩ = some (.slice x es.length c) ∧ RdE w x es := by
  obtain ⟨b, off, A, C, e, hb, hc⟩ := h (by intro e; simp [e] at hk)
  have hx : ls[k]? = some ls[k] := List.getElem?_eq_getElem hk
  obtain ⟨c0, r⟩ := hc k _ hx
  exact ⟨b, off, ls[k], A k, C k, e, hb, hx, c0, r⟩
def seeL (ls : List (List En)) (i : Nat) (p : Bs) : Option En := (ls[i]?).bind fun es => findE es p
theorem seeL_nil (i : Nat) (p : Bs) : seeL [] i p = none := by simp [seeL]
theorem seeL_snoc_nil (D : List (List En)) (i : Nat) (p : Bs) : seeL (D ++ [[]]) i p = seeL D i p := by
  unfold seeL
  rcases Nat.lt_trichotomy i D.length with h | h | h
  · rw [List.getElem?_append_left h]
  · subst h; simp [findE]
  · rw [List.getElem?_eq_none (by simp; omega), List.getElem?_eq_none (by omega)]
theorem seeL_step {D : List (List En)} {es : List En} {j : Nat} {e : En} (he : es[j]? = some e) (hn : ∀ x ∈ es.take j, x.path ≠ e.path) (i : Nat) (p : Bs) :
    (if i = D.length ∧ p = e.path then some e else seeL (D ++ [es.take j]) i p) = seeL (D ++ [es.take (j + 1)]) i p := by
  unfold seeL
  rcases Nat.lt_trichotomy i D.length with h | h | h
  · rw [List.getElem?_append_left h, List.getElem?_append_left h, if_neg (fun hh => by omega)]
  · subst h
    simp only [List.getElem?_append_right (Nat.le_refl _), Nat.sub_self, List.getElem?_cons_zero, Option.bind_some, true_and]
    rw [take_at he, find_snoc hn]
  · rw [List.getElem?_eq_none (by simp; omega), List.getElem?_eq_none (by simp; omega), if_neg (fun hh => by omega)]
theorem rise_new {es : List En} (h : Rise es) {j : Nat} {e : En} (he : es[j]? = some e) : ∀ x ∈ es.take j, x.path ≠ e.path := by
  intro x hx
  have h2 : Rise (es.take (j + 1)) := h.sublist (List.take_sublist _ _)
  rw [take_at he] at h2
  unfold Rise at h2
  rw [List.pairwise_append] at h2
  exact bl_ne (h2.2.2 x hx e (by simp))

set_option maxRecDepth 100000 in
set_option maxHeartbeats 6400000 in
theorem sightOf_any (a : Option Addr) (c n : Nat) (ls : List (List En)) (w : World) (h : RdL w a ls) (hn : n = ls.length) (hl : ls.length ≤ 4) (hF : ∀ es ∈ ls, Rise es ∧ es.length ≤ 12 ∧ SmallE es) :
    Calls Tryz.prog 163 #[.slice a n c] w fun r w' => ∃ b N, r = .returned (.map (some b)) ∧ w.heap.size ≤ b ∧ N ≤ 48 ∧ SeeM w w' b N (seeL ls) ∧ Below w.heap.size w w' := by
  subst hn
  have HR := hide h
  have HFt := hide hF
  clear h hF
  have hmm : ∀ u : World, (Instr.makeMap 183 none).run Tryz.prog u = .ok (.map (some u.heap.size)) (u.alloc (.map #[] 0)) := fun u => by simp [Instr.makeMap, Result.andThen]
  go_enter Tryz.func163, Tryz.ntmps163
  go_wp2_with fail
  go_loopw [11] (fun i wr => ∃ k N : Nat, k ≤ ls.length ∧ i = .int .i64 k ∧ N ≤ 12 * k ∧ Hid (SeeM w wr w.heap.size N (seeL (ls.take k))) ∧ Hid (Below w.heap.size w wr)) (fun i _ => ls.length - (intOf i).toNat)
  case atStart => exact ⟨0, 0, Nat.zero_le _, rfl, Nat.le_refl _, hide ((SeeM.made w w).congr (fun i p => (seeL_nil i p).symm)), hide (below_alloc _ _)⟩
  case round =>
    obtain ⟨k, N, hk, rfl, hN, HM, HW⟩ := hrel
    by_cases hlt : k < ls.length
    · obtain ⟨b0, o0, es, x0, c0, rfl, hb0, hes, cc0, hre⟩ := HR.out.at hlt
      have cw := (HW.out.cell (p := ⟨b0, o0 + k, none⟩) hb0).trans cc0
      have HE := hide hre
      have HES := hide hes
      obtain ⟨hri, hle, hsm⟩ := HFt.out es (List.mem_of_getElem? hes)
      have HRi := hide hri
      have HSm := hide hsm
      clear hes cc0 hre hri hsm
      have hkl : (ls.take k).length = k := by rw [List.length_take]; omega
      go_wp2_with fail
      go_loopw [18] (fun i w2 => ∃ j N2 : Nat, j ≤ es.length ∧ i = .int .i64 j ∧ N2 ≤ 12 * k + j ∧ Hid (SeeM w w2 w.heap.size N2 (seeL (ls.take k ++ [es.take j]))) ∧ Hid (Below w.heap.size w w2)) (fun i _ => es.length - (intOf i).toNat)
      case atStart => exact ⟨0, N, Nat.zero_le _, rfl, by omega, hide (HM.out.congr (fun i p => (seeL_snoc_nil _ i p).symm)), HW⟩
      case round =>
        obtain ⟨j, N2, hj, rfl, hN2, HM2, HW2⟩ := hrel
        by_cases hjl : j < es.length
        · obtain ⟨b, off, e, x, cc, rfl, hb, he, c0, c1, c2, c3, hr⟩ := HE.out.at hjl
          have c0 := (HW2.out.cell (p := ⟨b, off + j * 4, none⟩) hb).trans c0
          have c1 := (HW2.out.cell (p := ⟨b, off + j * 4 + 1, none⟩) hb).trans c1
          have c2 := (HW2.out.cell (p := ⟨b, off + j * 4 + 2, none⟩) hb).trans c2
          have c3 := (HW2.out.cell (p := ⟨b, off + j * 4 + 3, none⟩) hb).trans c3
          have HX := hide he
          have HRc := hide hr
          have hsm := (HSm.out e (List.mem_of_getElem? he)).1
          have HNew := hide (rise_new HRi.out he)
          clear he hr
          have BA := hide ((below_alloc wr (.cells #[.string (str e.path), .int .i64 e.kind, .int .i64 e.size, .slice x e.chunks.length cc] 50)).drew)
          have F4 : Hid (Four (wr.alloc (.cells #[.string (str e.path), .int .i64 e.kind, .int .i64 e.size, .slice x e.chunks.length cc] 50)).drew wr.heap.size _ _ _ _) := hide (Four.new wr (.string (str e.path)) (.int .i64 e.kind) (.int .i64 e.size) (.slice x e.chunks.length cc) 50)
          go_wp2_with fail
          go_region_law
            (go_simp; go_wp2_with (go_at_call 50; refine (itemOf_any _ _ _ _ _ _ _).mono ?_; rintro r w3 ⟨rfl, hb3⟩; have BB3 := hide (below_next BA.out hb3); obtain ⟨f0, f1, f2, f3⟩ := F4.out.below hb3; obtain ⟨Dt, hown, hput⟩ := (HM2.out.below BB3.out).put (i := k) (p := e.path) (e := e) (c := cc) (by omega) hsm HRc.out; obtain ⟨w4, hrun, r1, r2⟩ := hown.update spotLaw Tryz.underlying183 (by unfold maxLen; omega) (spot_key (i := k) (p := e.path) (by omega) hsm) (val := itV e x cc) rfl; have HP4 := hide (hput w4 r1); have HG4 := hide r2; clear hb3 hown hput r1 r2; unfold spotV itV at hrun))
          all_goals
            have HN4 : Hid (SeeM w w4 w.heap.size (N2 + 1) (seeL (ls.take k ++ [es.take (j + 1)]))) := hide (HP4.out.congr (fun i p => by have := seeL_step (D := ls.take k) HX.out HNew.out i p; rw [hkl] at this; exact this))
            have B4 := hide ((below_next HW2.out BB3.out).trans ((see_grown HG4.out).below (Nat.le_trans HW2.out.size BB3.out.size) (fun q hq e => by omega)))
            go_wp2_with fail
            go_roundw
            case rel => exact ⟨j + 1, N2 + 1, by omega, by go_num, by omega, HN4, B4⟩
            case measure => simp [intOf]; omega
        · have HE2 := hide (show es.take j = es from List.take_of_length_le (by omega))
          go_wp2_with fail
          go_roundw
          case rel => exact ⟨k + 1, N2, by omega, by go_num, by omega, hide (HM2.out.congr (fun i p => by rw [HE2.out, take_at HES.out])), HW2⟩
          case measure => simp [intOf]; omega
    · have HE := hide (show ls.take k = ls from List.take_of_length_le (by omega))
      go_wp2_with fail
      go_ret
      exact ⟨_, N, rfl, Nat.le_refl _, by omega, by have := HM.out; rw [HE.out] at this; exact this, HW.out⟩

end Go.Proofs.YteegkblkfdnfiaaGreat

namespace Go.Proofs.YteegkblkfdnfiaaGreat
open Go.RowKit Go.Maps
set_option linter.unusedVariables false
attribute [local go_sem ↓] Go.wp_at_zero Go.wp_at_succ

theorem above_small {p : Bs} (hp : faultP p = 0) : ∀ u ∈ above p, u.length ≤ p.length := by
  intro u hu
  have hb : isBelow p u = true := by simpa [isBelow] using hu
  rw [isBelow_good hp] at hb
  have := below_len (of_decide_eq_true hb).2
  omega
end Go.Proofs.YteegkblkfdnfiaaGreat

namespace Go.Proofs.YteegkblkfdnfiaaGreat
open Go.RowKit Go.Maps
set_option linter.unusedVariables false
attribute [local go_sem ↓] Go.wp_at_zero Go.wp_at_succ

set_option maxRecDepth 100000 in
set_option maxHeartbeats 1600000 in
theorem hides_any (b N i : Nat) (p : Bs) (S : Nat → Bs → Option En) (w0 w : World) (h : SeeM w0 w b N S) (hi : i ≤ 100) (hp : p.length ≤ 1048576) :
    Calls Tryz.prog 247 #[.map (some b), .int .i64 i, .string (str p)] w fun r w' => r = .returned (.bool ((S i p).any fun e => !decide (e.kind = 2))) ∧ Below w.heap.size w w' := by
  cases hS : S i p with
  | none =>
    have HL := hide (h.no hi hp hS)
    clear h hS
    go_enter Tryz.func247, Tryz.ntmps247
    go_wp2_with (at_lookup; refine wpList_lookS rfl _ _ 183 true rfl _ _ _ rfl rfl HL.out ?_)
    go_ret
    exact ⟨rfl, below_alloc _ _⟩
  | some e =>
    obtain ⟨x, cc, hl, -, -⟩ := h.yes hi hp hS
    have HL := hide hl
    clear h hS hl
    by_cases hk : e.kind = 2
    · have hk' : (e.kind == 2) = true := by simpa using hk
      have HV := hide (show ((some e).any fun e => !decide (e.kind = 2)) = (e.kind != 2) by simp [hk])
      clear hk hk'
      unfold itV at HL
      go_enter Tryz.func247, Tryz.ntmps247
      go_wp2_with (at_lookup; refine wpList_lookS rfl _ _ 183 true rfl _ _ _ rfl rfl HL.out ?_)
      go_ret
      exact ⟨ret_bool HV.out.symm, below_alloc _ _⟩
    · have hk' : (e.kind == 2) = false := by simpa using hk
      have HV := hide (show ((some e).any fun e => !decide (e.kind = 2)) = (e.kind != 2) by simp [hk])
      clear hk hk'
      unfold itV at HL
      go_enter Tryz.func247, Tryz.ntmps247
      go_wp2_with (at_lookup; refine wpList_lookS rfl _ _ 183 true rfl _ _ _ rfl rfl HL.out ?_)
      go_ret
      exact ⟨ret_bool HV.out.symm, below_alloc _ _⟩

def AsksS (W0 : World) (fn : FuncId) (cap : Array Value) (f : Bs → Bool) : Prop :=
  (∀ args w, (callFunc fn args).run Tryz.prog w = .ok (.enter fn args) w) ∧ ∀ (s : Bs) (w : World), s.length ≤ 1048576 → Below W0.heap.size W0 w →
    Calls Tryz.prog fn (#[.string (str s)] ++ cap) w fun r w' => r = .returned (.bool (f s)) ∧ Below w.heap.size w w'

set_option maxRecDepth 100000 in
set_option maxHeartbeats 3200000 in
theorem indexFuncS_any (a : Option Addr) (c n : Nat) (ps : List Bs) (fn : FuncId) (cap : Array Value) (f : Bs → Bool) (w : World) (h : ReadsS w a ps) (hn : n = ps.length) (hl : ps.length ≤ 1048576) (hs : ∀ p ∈ ps, p.length ≤ 1048576) (hf : AsksS w fn cap f) :
    Calls Tryz.prog 266 #[.slice a n c, .func (.func fn) #[] cap] w fun r w' => ((∃ k : Nat, r = .returned (.int .i64 k) ∧ ps.any f = true) ∨ (r = .returned (.int .i64 (-1)) ∧ ps.any f = false)) ∧ Below w.heap.size w w' := by
  subst hn
  have eg := hf.1
  have HF := hide hf
  have HR := hide h
  have HS := hide hs
  clear h hf hs
  go_enter Tryz.func266, Tryz.ntmps266
  go_wp2_with fail
  go_loopw [8] (fun i wr => ∃ k : Nat, k ≤ ps.length ∧ i = .int .i64 k ∧ Hid (ps.any f = (ps.drop k).any f) ∧ Hid (Below w.heap.size w wr)) (fun i _ => ps.length - (intOf i).toNat)
  case atStart => exact ⟨0, Nat.zero_le _, rfl, hide (by simp), hide (Below.refl _ _)⟩
  case round =>
    obtain ⟨k, hk, rfl, HFi, HW⟩ := hrel
    by_cases hlt : k < ps.length
    · obtain ⟨b, off, rfl, hb, hc⟩ := (HR.out.below HW.out) (by intro e; simp [e] at hlt)
      have c0 := hc k hlt
      have hx : ps[k]? = some (ps.getD k []) := by rw [List.getD_eq_getElem?_getD, List.getElem?_eq_getElem hlt]; rfl
      have hd : ps.drop k = ps.getD k [] :: ps.drop (k + 1) := by
        rw [List.drop_eq_getElem_cons hlt]; congr 1; rw [List.getD_eq_getElem?_getD, List.getElem?_eq_getElem hlt]; rfl
      have hsm := HS.out _ (List.mem_of_getElem? hx)
      have HD := hide (HFi.out.trans (by rw [hd, List.any_cons]))
      clear hc hd hx
      generalize ps.getD k [] = q at *
      go_wp2_with fail
      refine (HF.out.2 q _ hsm HW.out).mono ?_
      rintro r w3 ⟨rfl, hb3⟩
      have B3 := hide (below_next HW.out hb3)
      clear hb3 c0
      cases hq : f q
      · have HN := hide (show ps.any f = (ps.drop (k + 1)).any f by rw [HD.out, hq, Bool.false_or])
        clear hq
        go_wp2_with fail
        go_roundw
        case rel => exact ⟨k + 1, by omega, by go_num, HN, B3⟩
        case measure => simp [intOf]; omega
      · have HN := hide (show ps.any f = true by rw [HD.out, hq, Bool.true_or])
        clear hq
        go_wp2_with fail
        go_ret
        exact ⟨.inl ⟨k, rfl, HN.out⟩, B3.out⟩
    · have HN := hide (show ps.any f = false by rw [HFi.out, List.drop_eq_nil_of_le (by omega)]; rfl)
      go_wp2_with fail
      go_ret
      exact ⟨.inr ⟨rfl, HN.out⟩, HW.out⟩
set_option maxRecDepth 100000 in
set_option maxHeartbeats 800000 in
theorem containsFuncS_any (a : Option Addr) (c n : Nat) (ps : List Bs) (fn : FuncId) (cap : Array Value) (f : Bs → Bool) (w : World) (h : ReadsS w a ps) (hn : n = ps.length) (hl : ps.length ≤ 1048576) (hs : ∀ p ∈ ps, p.length ≤ 1048576) (hf : AsksS w fn cap f) :
    Calls Tryz.prog 245 #[.slice a n c, .func (.func fn) #[] cap] w fun r w' => r = .returned (.bool (ps.any f)) ∧ Below w.heap.size w w' := by
  subst hn
  have HC := hide (indexFuncS_any a c ps.length ps fn cap f w h rfl hl hs hf)
  clear h hf hs
  go_enter Tryz.func245, Tryz.ntmps245
  go_wp2_with fail
  refine HC.out.mono ?_
  rintro r w1 ⟨(⟨k, rfl, hi⟩ | ⟨rfl, hi⟩), hb⟩
  · have hk0 : (0 : Int) ≤ (k : Int) := by omega
    have HI := hide hi
    have HB := hide hb
    clear hi hb HC
    go_wp2_with fail
    go_ret
    exact ⟨ret_bool HI.out.symm, HB.out⟩
  · have HI := hide hi
    have HB := hide hb
    clear hi hb HC
    go_wp2_with fail
    go_ret
    exact ⟨ret_bool HI.out.symm, HB.out⟩

set_option maxRecDepth 100000 in
set_option maxHeartbeats 800000 in
theorem hidesLit_any (b N i b1 b2 : Nat) (q : Bs) (S : Nat → Bs → Option En) (w0 w : World) (h : SeeM w0 w b N S) (hi : i ≤ 100) (hq : q.length ≤ 1048576) (h1 : w.cell? ⟨b1, 0, none⟩ = some (.map (some b))) (h2 : w.cell? ⟨b2, 0, none⟩ = some (.int .i64 i)) :
    Calls Tryz.prog 246 #[.string (str q), .pointer (some ⟨b1, 0, none⟩), .pointer (some ⟨b2, 0, none⟩)] w fun r w' => r = .returned (.bool ((S i q).any fun e => !decide (e.kind = 2))) ∧ Below w.heap.size w w' := by
  have HC := hide (hides_any b N i q S w0 w h hi hq)
  clear h
  go_enter Tryz.func246, Tryz.ntmps246
  go_wp2_with fail
  refine HC.out.mono ?_
  rintro r w1 ⟨rfl, hb⟩
  have HB := hide hb
  clear hb
  go_wp2_with fail
  go_ret
  exact ⟨rfl, HB.out⟩
set_option maxRecDepth 100000 in
set_option maxHeartbeats 1600000 in
theorem hidesAbove_any (b N i : Nat) (p : Bs) (S : Nat → Bs → Option En) (w0 w : World) (h : SeeM w0 w b N S) (hi : i ≤ 100) (hp : p.length ≤ 1048576) :
    Calls Tryz.prog 210 #[.map (some b), .int .i64 i, .string (str p)] w fun r w' => r = .returned (.bool ((above p).any fun q => (S i q).any fun e => !decide (e.kind = 2))) ∧ Below w.heap.size w w' := by
  have hmf : ∀ (fn : Fn) (first cap : Array Value) (w : World), (Instr.makeFunc fn first cap).run Tryz.prog w = .ok (.func fn first cap) w := fun _ _ _ _ => rfl
  have B0 := hide (below_next (below_alloc w (.cells #[.map (some b)] 183)) (below_alloc _ (.cells #[.int .i64 i] 3)))
  have HM := hide h
  clear h
  have hsz := str_size p
  go_enter Tryz.func210, Tryz.ntmps210
  go_wp2_with fail
  refine (implAboveOf_any (str p) _ (by omega)).mono ?_
  rintro r w1 ⟨av, cv, rfl, ho, hb⟩
  have B1 := hide (below_next B0.out hb)
  have RS := hide (OwnS.reads ho)
  have HM1 := hide (HM.out.below B1.out)
  have q1 : w1.cell? ⟨w.heap.size, 0, none⟩ = some (.map (some b)) := (hb.cell (p := ⟨w.heap.size, 0, none⟩) (by simp; omega)).trans (by simp)
  have q2 : w1.cell? ⟨w.heap.size + 1, 0, none⟩ = some (.int .i64 i) := (hb.cell (p := ⟨w.heap.size + 1, 0, none⟩) (by simp)).trans (by simp)
  have hsm : ∀ u ∈ above p, u.length ≤ 1048576 := by
    intro u hu
    by_cases hpf : faultP p = 0
    · have := above_small hpf u hu; omega
    · rw [above_bad hpf] at hu; simp at hu
  have HQ : Hid (AsksS w1 246 #[.pointer (some ⟨w.heap.size, 0, none⟩), .pointer (some ⟨w.heap.size + 1, 0, none⟩)] (fun q => (S i q).any fun e => !decide (e.kind = 2))) :=
    hide ⟨enters_of Tryz.func246 (by kernel_rfl) rfl, fun q w' hq hb' => hidesLit_any b N i w.heap.size (w.heap.size + 1) q S w0 w' (HM1.out.below hb') hi hq ((hb'.cell (p := ⟨w.heap.size, 0, none⟩) (World.block_lt_of_cell? w1 _ q1)).trans q1) ((hb'.cell (p := ⟨w.heap.size + 1, 0, none⟩) (World.block_lt_of_cell? w1 _ q2)).trans q2)⟩
  have HSD := hide (str_data p)
  rw [HSD.out] at RS ⊢
  have hal := above_len p
  have HCF := hide (containsFuncS_any av cv (above p).length (above p) _ _ _ w1 RS.out rfl (by omega) hsm HQ.out)
  clear ho hb q1 q2 hsm
  have hfield : ∀ (c v : Value) (w : World), (Instr.field 180 (.agg #[c, v]) 1).run Tryz.prog w = .ok v w := fun c v w => by kernel_rfl
  go_wp2_with fail
  refine HCF.out.mono ?_
  rintro r w2 ⟨rfl, hb2⟩
  have B2 := hide (below_next B1.out hb2)
  clear hb2
  go_wp2_with fail
  go_ret
  exact ⟨rfl, B2.out⟩
end Go.Proofs.YteegkblkfdnfiaaGreat

namespace Go.Proofs.YteegkblkfdnfiaaGreat
open Go.RowKit Go.Maps
set_option linter.unusedVariables false
attribute [local go_sem ↓] Go.wp_at_zero Go.wp_at_succ

def lsFrom : List (List En) → Int
  | [] => 0
  | es :: r => if layFaultP es = 0 then lsFrom r else layFaultP es
def layersP (ls : List (List En)) : Int := if 4 < ls.length then 2 else lsFrom ls
theorem lsFrom_zero : ∀ {ls : List (List En)}, lsFrom ls = 0 ↔ ∀ es ∈ ls, Right es
  | [] => by simp [lsFrom]
  | es :: r => by
    have ih := lsFrom_zero (ls := r)
    unfold lsFrom
    by_cases h : layFaultP es = 0
    · rw [if_pos h, ih]
      simp [right_P.1 h]
    · rw [if_neg h]
      constructor
      · intro h2; exact absurd h2 h
      · intro h2; exact absurd (right_P.2 (h2 es (by simp))) h
theorem layersP_zero {ls : List (List En)} : layersP ls = 0 ↔ ls.length ≤ 4 ∧ ∀ es ∈ ls, Right es := by
  unfold layersP
  by_cases h : 4 < ls.length
  · rw [if_pos h]; constructor
    · intro h2; cases h2
    · intro h2; omega
  · rw [if_neg h, lsFrom_zero]; constructor
    · intro h2; exact ⟨by omega, h2⟩
    · intro h2; exact h2.2
theorem lsFrom_bad {ls : List (List En)} {k : Nat} {es : List En} (he : ls[k]? = some es) (hf : layFaultP es ≠ 0) : lsFrom (ls.drop k) = layFaultP es := by
  obtain ⟨hk, hx⟩ := List.getElem?_eq_some_iff.1 he
  rw [List.drop_eq_getElem_cons hk, hx]
  simp [lsFrom, hf]
theorem lsFrom_next {ls : List (List En)} {k : Nat} {es : List En} (he : ls[k]? = some es) (hf : layFaultP es = 0) : lsFrom (ls.drop k) = lsFrom (ls.drop (k + 1)) := by
  obtain ⟨hk, hx⟩ := List.getElem?_eq_some_iff.1 he
  rw [List.drop_eq_getElem_cons hk, hx]
  simp [lsFrom, hf]
def SmallL (ls : List (List En)) : Prop := ∀ es ∈ ls, es.length ≤ 1048576 ∧ SmallE es

set_option maxRecDepth 100000 in
set_option maxHeartbeats 3200000 in
theorem implLayersFault_any (a : Option Addr) (c n : Nat) (ls : List (List En)) (w : World) (h : RdL w a ls) (hn : n = ls.length) (hl : ls.length ≤ 1048576) (hs : SmallL ls) :
    Calls Tryz.prog 52 #[.slice a n c] w fun r w' => r = .returned (.int .i64 (layersP ls)) ∧ Below w.heap.size w w' := by
  subst hn
  have HR := hide h
  have HS := hide hs
  clear h hs
  by_cases h4 : 4 < ls.length
  · have HZ := hide (show layersP ls = 2 by simp [layersP, h4])
    have h4' : (4 : Int) < (ls.length : Int) := by omega
    go_enter Tryz.func52, Tryz.ntmps52
    go_wp2_with fail
    go_ret
    exact ⟨by rw [HZ.out]; rfl, Below.refl _ _⟩
  · have HZ := hide (show layersP ls = lsFrom (ls.drop 0) by simp [layersP, h4])
    have h4' : ¬ (4 : Int) < (ls.length : Int) := by omega
    clear h4
    generalize layersP ls = V at *
    go_enter Tryz.func52, Tryz.ntmps52
    go_wp2_with fail
    go_loopw [11] (fun i wr => ∃ k : Nat, k ≤ ls.length ∧ i = .int .i64 k ∧ Hid (V = lsFrom (ls.drop k)) ∧ Hid (Below w.heap.size w wr)) (fun i _ => ls.length - (intOf i).toNat)
    case atStart => exact ⟨0, Nat.zero_le _, rfl, HZ, hide (Below.refl _ _)⟩
    case round =>
      obtain ⟨k, hk, rfl, HV, HW⟩ := hrel
      by_cases hlt : k < ls.length
      · obtain ⟨b, off, es, x, cc, rfl, hb, he, c0, hr⟩ := (HR.out.below HW.out).at hlt
        obtain ⟨hel, hsm⟩ := HS.out es (List.mem_of_getElem? he)
        have HLF := hide (implLayerFault_any x cc es.length es wr hr rfl (by omega) hsm)
        have HX := hide he
        clear he hr hsm
        by_cases hf : layFaultP es = 0
        · have HN := hide (HV.out.trans (lsFrom_next HX.out hf))
          rw [hf] at HLF
          clear hf
          go_wp2_with fail
          refine HLF.out.mono ?_
          rintro r w1 ⟨rfl, hb1⟩
          have B1 := hide (below_next HW.out hb1)
          clear hb1 c0
          go_wp2_with fail
          go_roundw
          case rel => exact ⟨k + 1, by omega, by go_num, HN, B1⟩
          case measure => simp [intOf]; omega
        · have HN := hide (HV.out.trans (lsFrom_bad HX.out hf))
          generalize layFaultP es = F at *
          have hf2 : (F != 0) = true := by simp; exact hf
          clear hf
          go_wp2_with fail
          refine HLF.out.mono ?_
          rintro r w1 ⟨rfl, hb1⟩
          have B1 := hide (below_next HW.out hb1)
          clear hb1 c0
          go_wp2_with fail
          go_ret
          exact ⟨by rw [HN.out]; rfl, B1.out⟩
      · have HN := hide (show V = 0 by rw [HV.out, List.drop_eq_nil_of_le (by omega)]; rfl)
        go_wp2_with fail
        go_ret
        exact ⟨by rw [HN.out]; rfl, HW.out⟩
def seenG (S : Nat → Bs → Option En) (p : Bs) : Nat → Option Nat
  | 0 => none
  | n + 1 => match S n p with
    | some e => if e.kind = 3 then none else some n
    | none => if (above p).any (fun q => (S n q).any fun e => !decide (e.kind = 2)) then none else seenG S p n
theorem seen_hit {S : Nat → Bs → Option En} {p : Bs} {n : Nat} {e : En} (h : S n p = some e) : seenG S p (n + 1) = if e.kind = 3 then none else some n := by simp [seenG, h]
theorem seen_hid {S : Nat → Bs → Option En} {p : Bs} {n : Nat} (h : S n p = none) (hh : ((above p).any fun q => (S n q).any fun e => !decide (e.kind = 2)) = true) : seenG S p (n + 1) = none := by simp [seenG, h, hh]
theorem seen_down {S : Nat → Bs → Option En} {p : Bs} {n : Nat} (h : S n p = none) (hh : ((above p).any fun q => (S n q).any fun e => !decide (e.kind = 2)) = false) : seenG S p (n + 1) = seenG S p n := by simp [seenG, h, hh]
def ResW (o : Option Nat) (p : Bs) (w : World) (r : Ending) (w' : World) : Prop :=
  (match o with
    | some n => r = .returned (.tuple #[spotV n p, .bool true])
    | none => ∃ v s, r = .returned (.tuple #[.agg #[.int .i64 v, .string s], .bool false])) ∧ Below w.heap.size w w'
end Go.Proofs.YteegkblkfdnfiaaGreat

namespace Go.Proofs.YteegkblkfdnfiaaGreat
open Go.RowKit Go.Maps
set_option linter.unusedVariables false
attribute [local go_sem ↓] Go.wp_at_zero Go.wp_at_succ

set_option maxRecDepth 100000 in
set_option maxHeartbeats 6400000 in
theorem seenAt_any (b N : Nat) (p : Bs) (S : Nat → Bs → Option En) (w0 w : World) (h : SeeM w0 w b N S) (hp : p.length ≤ 1048576) :
    Calls Tryz.prog 164 #[.map (some b), .string (str p)] w (ResW (seenG S p 4) p w) := by
  have X0 := hide (Box.new w (.int .i64 0) (.string ⟨#[]⟩) 186)
  have B0 := hide (below_alloc w (.cells #[.int .i64 0, .string ⟨#[]⟩] 186))
  have M0 := hide (h.below B0.out)
  clear h
  go_enter Tryz.func164, Tryz.ntmps164
  go_wp2_with fail
  generalize w.alloc (.cells #[.int .i64 0, .string ⟨#[]⟩] 186) = W0 at *
  go_loopw [6] (fun i wr => ∃ n : Nat, n ≤ 4 ∧ i = .int .i64 ((n : Int) - 1) ∧ Hid (seenG S p 4 = seenG S p n) ∧ Hid (Below W0.heap.size W0 wr)) (fun i _ => (intOf i + 1).toNat)
  case atStart => exact ⟨4, Nat.le_refl _, rfl, hide rfl, hide (Below.refl _ _)⟩
  case round =>
    obtain ⟨n, hn, hi, HV, HW⟩ := hrel
    cases n with
    | zero =>
      rw [show ((0 : Nat) : Int) - 1 = -1 from rfl] at hi
      subst hi
      have HN := hide (show seenG S p 4 = none from HV.out)
      obtain ⟨⟨t0, t1⟩, t2, t3⟩ := X0.out.below HW.out
      clear HV
      go_wp2_with fail
      refine bodyPost_ret (v := .tuple #[.agg #[.int .i64 0, .string ⟨#[]⟩], .bool false]) (by simp [results, Tryz.results164, go_sem, t0, t1]) rfl ?_
      rw [HN.out]
      exact ⟨⟨0, ⟨#[]⟩, rfl⟩, ((below_next B0.out HW.out).setCell (p := ⟨w.heap.size, 0, none⟩) (Nat.le_refl _) _).setCell (p := ⟨w.heap.size, 1, none⟩) (Nat.le_refl _) _⟩
    | succ m =>
      rw [show ((m + 1 : Nat) : Int) - 1 = (m : Int) from by omega] at hi
      subst hi
      have hm0 : (0 : Int) ≤ (m : Int) := by omega
      have MW := hide (M0.out.below HW.out)
      have BS := hide (below_alloc wr (.cells #[.int .i64 m, .string (str p)] 186))
      have MS := hide (MW.out.below BS.out)
      cases hS : S m p with
      | none =>
        have HL := hide (MS.out.no (i := m) (p := p) (by omega) hp hS)
        have BI := hide (below_next BS.out (below_alloc _ (.cells #[.int .i64 0, .slice none 0 0, .string ⟨#[]⟩, .int .i64 0] 93)))
        have HHA := hide (hidesAbove_any b N m p S w0 _ (MW.out.below BI.out) (by omega) hp)
        have hm1 : IntKind.i64.wrap ((m : Int) - 1) = (m : Int) - 1 := by simp [IntKind.wrap, IntKind.signed, IntKind.bits]; omega
        cases hh : (above p).any fun q => (S m q).any fun e => !decide (e.kind = 2)
        · have HN := hide (HV.out.trans (seen_down hS hh))
          rw [hh] at HHA
          clear hh hS
          go_wp2_with (at_lookup; refine wpList_lookS rfl _ _ 183 true rfl _ _ _ rfl rfl HL.out ?_)
          refine HHA.out.mono ?_
          rintro r w2 ⟨rfl, hb2⟩
          have B2 := hide (below_next (below_next HW.out BI.out) hb2)
          clear hb2
          go_wp2_with fail
          go_roundw
          case rel => exact ⟨m, by omega, by first | rfl | go_num, HN, B2⟩
          case measure => simp [intOf] <;> omega
        · have HN := hide (HV.out.trans (seen_hid hS hh))
          rw [hh] at HHA
          clear hh hS
          go_wp2_with (at_lookup; refine wpList_lookS rfl _ _ 183 true rfl _ _ _ rfl rfl HL.out ?_)
          refine HHA.out.mono ?_
          rintro r w2 ⟨rfl, hb2⟩
          have B2 := hide (below_next (below_next HW.out BI.out) hb2)
          obtain ⟨⟨t0, t1⟩, t2, t3⟩ := X0.out.below B2.out
          clear hb2
          go_wp2_with fail
          refine bodyPost_ret (v := .tuple #[.agg #[.int .i64 0, .string ⟨#[]⟩], .bool false]) (by simp [results, Tryz.results164, go_sem, t0, t1]) rfl ?_
          rw [HN.out]
          exact ⟨⟨0, ⟨#[]⟩, rfl⟩, ((below_next B0.out B2.out).setCell (p := ⟨w.heap.size, 0, none⟩) (Nat.le_refl _) _).setCell (p := ⟨w.heap.size, 1, none⟩) (Nat.le_refl _) _⟩
      | some e =>
        obtain ⟨x, cc, hl, -, -⟩ := MS.out.yes (i := m) (p := p) (by omega) hp hS
        have HL := hide hl
        have HN := hide (HV.out.trans (seen_hit hS))
        unfold itV at HL
        clear hl hS
        have BI := hide (below_next BS.out (below_alloc _ (.cells #[.int .i64 e.size, .slice x e.chunks.length cc, .string (str e.path), .int .i64 e.kind] 93)))
        have B2 := hide (below_next B0.out (below_next HW.out BI.out))
        obtain ⟨⟨t0, t1⟩, t2, t3⟩ := (X0.out.below HW.out).below BI.out
        by_cases hk : e.kind = 3
        · rw [if_pos hk] at HN
          have hk' : (e.kind != 3) = false := by simp [hk]
          clear hk
          go_wp2_with (at_lookup; refine wpList_lookS rfl _ _ 183 true rfl _ _ _ rfl rfl HL.out ?_)
          go_region
          all_goals
            go_wp2_with fail
            refine bodyPost_ret (v := .tuple #[.agg #[.int .i64 m, .string (str p)], .bool false]) (by simp [results, Tryz.results164, go_sem, t0, t1]) rfl ?_
            rw [HN.out]
            exact ⟨⟨m, str p, rfl⟩, (B2.out.drew.setCell (p := ⟨w.heap.size, 0, none⟩) (Nat.le_refl _) _).setCell (p := ⟨w.heap.size, 1, none⟩) (Nat.le_refl _) _⟩
        · rw [if_neg hk] at HN
          have hk' : (e.kind != 3) = true := by simpa using hk
          clear hk
          go_wp2_with (at_lookup; refine wpList_lookS rfl _ _ 183 true rfl _ _ _ rfl rfl HL.out ?_)
          go_region
          all_goals
            go_wp2_with fail
            refine bodyPost_ret (v := .tuple #[.agg #[.int .i64 m, .string (str p)], .bool true]) (by simp [results, Tryz.results164, go_sem, t0, t1]) rfl ?_
            rw [HN.out]
            exact ⟨rfl, (B2.out.drew.setCell (p := ⟨w.heap.size, 0, none⟩) (Nat.le_refl _) _).setCell (p := ⟨w.heap.size, 1, none⟩) (Nat.le_refl _) _⟩
end Go.Proofs.YteegkblkfdnfiaaGreat

namespace Go.Proofs.YteegkblkfdnfiaaGreat
open Go.RowKit Go.Maps
set_option linter.unusedVariables false
attribute [local go_sem ↓] Go.wp_at_zero Go.wp_at_succ

def askL (ls : List (List En)) (p : Bs) : Int := if layersP ls = 0 then faultP p else layersP ls
theorem askL_right {ls : List (List En)} {p : Bs} (h : askL ls p = 0) : ls.length ≤ 4 ∧ (∀ es ∈ ls, Right es) ∧ faultP p = 0 := by
  unfold askL at h
  split at h
  · rename_i h1
    exact ⟨(layersP_zero.1 h1).1, (layersP_zero.1 h1).2, h⟩
  · rename_i h1; exact absurd h h1
set_option maxRecDepth 100000 in
set_option maxHeartbeats 1600000 in
theorem implAskL_any (a : Option Addr) (c n : Nat) (ls : List (List En)) (p : Bs) (w : World) (h : RdL w a ls) (hn : n = ls.length) (hl : ls.length ≤ 1048576) (hs : SmallL ls) (hp : p.length ≤ 1048576) :
    Calls Tryz.prog 113 #[.slice a n c, .string (str p)] w fun r w' => r = .returned (.int .i64 (askL ls p)) ∧ Below w.heap.size w w' := by
  subst hn
  have hsz := str_size p
  have HLF := hide (implLayersFault_any a c ls.length ls w h rfl hl hs)
  have HPF : Hid (∀ w', Calls Tryz.prog 63 #[.string (str p)] w' fun e w2 => e = .returned (.int .i64 (faultP p)) ∧ Below w'.heap.size w' w2) := hide (fun w' => by have h1 := implPathFault_any (str p) w' (by omega); rw [str_data] at h1; exact h1)
  clear h hs
  by_cases hz : layersP ls = 0
  · have HZ := hide (show askL ls p = faultP p by simp [askL, hz])
    rw [hz] at HLF
    clear hz
    generalize askL ls p = V at *
    generalize faultP p = F at *
    go_enter Tryz.func113, Tryz.ntmps113
    go_wp2_with fail
    refine HLF.out.mono ?_
    rintro r w1 ⟨rfl, hb1⟩
    have B1 := hide hb1
    clear hb1
    go_wp2_with fail
    refine (HPF.out w1).mono ?_
    rintro r w2 ⟨rfl, hb2⟩
    have B2 := hide (below_next B1.out hb2)
    clear hb2
    go_wp2_with fail
    go_ret
    exact ⟨by rw [HZ.out]; rfl, B2.out⟩
  · have HZ := hide (show askL ls p = layersP ls by simp [askL, hz])
    generalize askL ls p = V at *
    generalize layersP ls = F at *
    have hz2 : (F != 0) = true := by simp; exact hz
    clear hz
    go_enter Tryz.func113, Tryz.ntmps113
    go_wp2_with fail
    refine HLF.out.mono ?_
    rintro r w1 ⟨rfl, hb1⟩
    have B1 := hide hb1
    clear hb1
    go_wp2_with fail
    go_ret
    exact ⟨by rw [HZ.out]; rfl, B1.out⟩
set_option maxRecDepth 100000 in
set_option maxHeartbeats 1600000 in
theorem ofTree_any (e : En) (x : Option Addr) (cc : Nat) (w : World) (hk : e.kind = 1 ∨ e.kind = 2 ∨ e.kind = 3 ∨ e.kind = 4) :
    Calls Tryz.prog 165 #[itV e x cc] w fun r w' => r = .returned (itV (asT e) x cc) ∧ Below w.heap.size w w' := by
  unfold itV
  have B0 := hide (below_next (below_alloc w (.cells #[.int .i64 e.size, .slice x e.chunks.length cc, .string (str e.path), .int .i64 e.kind] 93)) (below_alloc _ (.cells #[.int .i64 0, .slice none 0 0, .string ⟨#[]⟩, .int .i64 0] 93)))
  have F0 := hide ((Box4.new w (.int .i64 e.size) (.slice x e.chunks.length cc) (.string (str e.path)) (.int .i64 e.kind) 93).below (below_alloc _ (.cells #[.int .i64 0, .slice none 0 0, .string ⟨#[]⟩, .int .i64 0] 93)))
  have G0 := hide (Box4.new (w.alloc (.cells #[.int .i64 e.size, .slice x e.chunks.length cc, .string (str e.path), .int .i64 e.kind] 93)) (.int .i64 0) (.slice none 0 0) (.string ⟨#[]⟩) (.int .i64 0) 93)
  have hsz : (w.alloc (.cells #[.int .i64 e.size, .slice x e.chunks.length cc, .string (str e.path), .int .i64 e.kind] 93)).heap.size = w.heap.size + 1 := by simp
  rw [hsz] at G0
  have HT := hide (show dirK e.kind = true → asT e = { e with kind := 2 } from fun hd => by
    rcases hk with h | h | h | h <;> rw [h] at hd <;> simp [dirK] at hd
    · cases e; simp at h; subst h; simp [asT]
    · simp [asT, h, kindE])
  have HT2 := hide (show dirK e.kind = false → asT e = e from fun hd => by
    rcases hk with h | h | h | h <;> rw [h] at hd <;> simp [dirK] at hd
    · simp [asT, h]
    · simp [asT, h])
  clear hsz hk
  obtain ⟨⟨f0, f1, f2, f3⟩, -⟩ := F0.out
  go_enter Tryz.func165, Tryz.ntmps165
  go_wp2_with fail
  generalize (w.alloc (.cells #[.int .i64 e.size, .slice x e.chunks.length cc, .string (str e.path), .int .i64 e.kind] 93)).alloc (.cells #[.int .i64 0, .slice none 0 0, .string ⟨#[]⟩, .int .i64 0] 93) = W0 at *
  refine (isDir_any _ _ _ _ _ _ _).mono ?_
  rintro r w1 ⟨rfl, hb1⟩
  have B1 := hide (below_next B0.out hb1)
  clear f0 f1 f2 f3
  obtain ⟨⟨f0, f1, f2, f3⟩, ff⟩ := F0.out.below hb1
  obtain ⟨⟨g0, g1, g2, g3⟩, gf⟩ := G0.out.below hb1
  have ff3 := ff 3
  have gf0 := gf 0
  have gf1 := gf 1
  have gf2 := gf 2
  have gf3 := gf 3
  clear hb1 ff gf
  have BF := hide (show ∀ y0 y1 y2 y3 : Value, ∀ W : World, Below w.heap.size w W → Below w.heap.size w ((((W.setCell ⟨w.heap.size + 1, 0, none⟩ y0).setCell ⟨w.heap.size + 1, 1, none⟩ y1).setCell ⟨w.heap.size + 1, 2, none⟩ y2).setCell ⟨w.heap.size + 1, 3, none⟩ y3) from fun y0 y1 y2 y3 W hb => (((hb.setCell (p := ⟨w.heap.size + 1, 0, none⟩) (by simp) y0).setCell (p := ⟨w.heap.size + 1, 1, none⟩) (by simp) y1).setCell (p := ⟨w.heap.size + 1, 2, none⟩) (by simp) y2).setCell (p := ⟨w.heap.size + 1, 3, none⟩) (by simp) y3)
  cases hd : dirK e.kind
  · have HE := hide (HT2.out hd)
    clear hd HT HT2
    go_wp2_with fail
    refine bodyPost_ret (v := .agg #[.int .i64 e.size, .slice x e.chunks.length cc, .string (str e.path), .int .i64 e.kind]) (by simp [results, Tryz.results165, go_sem, g0, g1, g2, g3]) rfl ⟨by rw [HE.out], ?_⟩
    exact BF.out _ _ _ _ _ B1.out
  · have HE := hide (HT.out hd)
    clear hd HT HT2
    go_wp2_with fail
    refine bodyPost_ret (v := .agg #[.int .i64 e.size, .slice x e.chunks.length cc, .string (str e.path), .int .i64 2]) (by simp [results, Tryz.results165, go_sem, g0, g1, g2, g3]) rfl ⟨by rw [HE.out], ?_⟩
    exact BF.out _ _ _ _ _ (B1.out.setCell (p := ⟨w.heap.size, 3, none⟩) (Nat.le_refl _) _)
end Go.Proofs.YteegkblkfdnfiaaGreat

namespace Go.Proofs.YteegkblkfdnfiaaGreat
open Go.RowKit Go.Maps
set_option linter.unusedVariables false
attribute [local go_sem ↓] Go.wp_at_zero Go.wp_at_succ

def seenL (ls : List (List En)) (p : Bs) : Option Nat := seenG (seeL ls) p 4
theorem seen_some {S : Nat → Bs → Option En} {p : Bs} : ∀ {n k : Nat}, seenG S p n = some k → k < n ∧ ∃ e, S k p = some e ∧ e.kind ≠ 3
  | 0, k, h => by cases h
  | n + 1, k, h => by
    cases hS : S n p with
    | some e =>
      rw [seen_hit hS] at h
      by_cases hk : e.kind = 3
      · rw [if_pos hk] at h; cases h
      · rw [if_neg hk] at h
        cases h
        exact ⟨by omega, e, hS, hk⟩
    | none =>
      cases hh : (above p).any fun q => (S n q).any fun e => !decide (e.kind = 2)
      · rw [seen_down hS hh] at h
        obtain ⟨h1, h2⟩ := seen_some h
        exact ⟨by omega, h2⟩
      · rw [seen_hid hS hh] at h; cases h
def plcC (ls : List (List En)) (p : Bs) : Int := if askL ls p = 0 then (if (seenL ls p).isSome then 0 else 4) else askL ls p
def plcV (ls : List (List En)) (p : Bs) : Int := if askL ls p = 0 then (match seenL ls p with | some n => (n : Int) | none => 0) else 0
def lookL (ls : List (List En)) (p : Bs) : List En := if askL ls p = 0 then (match seenL ls p with | some n => ((seeL ls n p).map asT).toList | none => []) else []
theorem plc_bad {ls : List (List En)} {p : Bs} (h : askL ls p ≠ 0) : plcC ls p = askL ls p ∧ plcV ls p = 0 ∧ lookL ls p = [] := by simp [plcC, plcV, lookL, h]
theorem plc_none {ls : List (List En)} {p : Bs} (h : askL ls p = 0) (hn : seenL ls p = none) : plcC ls p = 4 ∧ plcV ls p = 0 ∧ lookL ls p = [] := by simp [plcC, plcV, lookL, h, hn]
theorem plc_some {ls : List (List En)} {p : Bs} {n : Nat} {e : En} (h : askL ls p = 0) (hn : seenL ls p = some n) (he : seeL ls n p = some e) : plcC ls p = 0 ∧ plcV ls p = n ∧ lookL ls p = [asT e] := by simp [plcC, plcV, lookL, h, hn, he]
theorem seeL_mem {ls : List (List En)} {n : Nat} {p : Bs} {e : En} (h : seeL ls n p = some e) : ∃ es ∈ ls, e ∈ es ∧ e.path = p := by
  unfold seeL at h
  cases hx : ls[n]? with
  | none => rw [hx] at h; cases h
  | some es =>
    rw [hx] at h
    obtain ⟨h1, h2⟩ := find_mem (show findE es p = some e from h)
    exact ⟨es, List.mem_of_getElem? hx, h1, h2⟩
theorem rights_sight {ls : List (List En)} (h : ∀ es ∈ ls, Right es) (hs : SmallL ls) : ∀ es ∈ ls, Rise es ∧ es.length ≤ 12 ∧ SmallE es := fun es he => ⟨(h es he).rise, (h es he).len, (hs es he).2⟩

end Go.Proofs.YteegkblkfdnfiaaGreat

namespace Go.Proofs.YteegkblkfdnfiaaGreat
open Go.RowKit Go.Maps
set_option linter.unusedVariables false
attribute [local go_sem ↓] Go.wp_at_zero Go.wp_at_succ

theorem asT_chunks (e : En) : (asT e).chunks = e.chunks := by unfold asT; split <;> rfl

set_option maxRecDepth 100000 in
set_option maxHeartbeats 3200000 in
theorem implLookOver_any (a : Option Addr) (c n : Nat) (ls : List (List En)) (p : Bs) (w : World) (h : RdL w a ls) (hn : n = ls.length) (hl : ls.length ≤ 1048576) (hs : SmallL ls) (hp : p.length ≤ 1048576) :
    Calls Tryz.prog 121 #[.slice a n c, .string (str p)] w (ResE (plcC ls p) (lookL ls p) w) := by
  subst hn
  have X0 := hide (Box.new w (.int .i64 0) (.slice none 0 0) 54)
  have B0 := hide (below_alloc w (.cells #[.int .i64 0, .slice none 0 0] 54))
  have HR := hide h
  have HSL := hide hs
  have HAs := hide (implAskL_any a c ls.length ls p _ (h.below B0.out) rfl hl hs hp)
  clear h hs
  by_cases hz : askL ls p = 0
  · obtain ⟨h4, hRs, hpf⟩ := askL_right hz
    rw [hz] at HAs
    have HRs := hide (rights_sight hRs HSL.out)
    go_enter Tryz.func121, Tryz.ntmps121
    go_wp2_with fail
    refine HAs.out.mono ?_
    rintro r w1 ⟨rfl, hb1⟩
    have B1 := hide (below_next B0.out hb1)
    have X1 := hide (X0.out.below hb1)
    clear hb1 X0 B0 HAs
    go_wp2_with fail
    refine (sightOf_any a c ls.length ls w1 (HR.out.below B1.out) rfl h4 HRs.out).mono ?_
    rintro r w2 ⟨b, N, rfl, hbb, hN, hM, hb2⟩
    have HM := hide hM
    have BB2 := hide hb2
    have B2 := hide (below_next B1.out hb2)
    have X2 := hide (X1.out.below hb2)
    have HSA := hide (seenAt_any b N p (seeL ls) w1 w2 hM hp)
    clear hM hb2
    unfold ResW at HSA
    cases hsn : seenG (seeL ls) p 4 with
    | none =>
      have HC := hide (plc_none hz hsn)
      rw [hsn] at HSA
      clear hz hsn hRs hpf
      go_wp2_with fail
      refine HSA.out.mono ?_
      rintro r w3 ⟨⟨v, s, rfl⟩, hb3⟩
      have B3 := hide (below_next (below_next B2.out hb3) (below_alloc w3 (.cells #[.int .i64 v, .string s] 186)))
      obtain ⟨⟨t0, t1⟩, t2, t3⟩ := X2.out.below (below_next hb3 (below_alloc w3 (.cells #[.int .i64 v, .string s] 186)))
      clear hb3
      go_wp2_with fail
      exact bodyPost_ret (v := .agg #[.int .i64 4, .slice none 0 0]) (by simp [results, Tryz.results121, go_sem, t0, t1]) rfl (by rw [HC.out.1, HC.out.2.2]; exact ResE.bad (Nat.le_refl _) B3.out)
    | some k =>
      obtain ⟨hk4, e, he, -⟩ := seen_some hsn
      have HC := hide (plc_some hz hsn he)
      rw [hsn] at HSA
      obtain ⟨es, hes, hee, -⟩ := seeL_mem he
      have hkk := ent_kinds ((hRs es hes).ent e hee)
      have hsm := (HSL.out es hes).2 e hee
      clear hz hsn hRs hpf hes hee
      go_wp2_with fail
      refine HSA.out.mono ?_
      rintro r w3 ⟨rfl, hb3⟩
      have BA := hide (below_alloc w3 (.cells #[.int .i64 k, .string (str p)] 186))
      have B3 := hide (below_next (below_next B2.out hb3) BA.out)
      have X3 := hide (X2.out.below (below_next hb3 BA.out))
      have BB3 := hide (below_next (below_next BB2.out hb3) BA.out)
      obtain ⟨x, cc, -, hlk, hrd⟩ := ((HM.out.below hb3).below BA.out).yes (by omega : k ≤ 100) hp he
      have HL := hide hlk
      have HRc := hide (hrd.below BB3.out)
      have Y3 := hide (Box.new w3 (.int .i64 k) (.string (str p)) 186)
      unfold spotV
      clear hb3 hlk hrd he HM HSA X2 B2 BB2 BA
      obtain ⟨⟨y0, y1⟩, y2, y3⟩ := Y3.out
      unfold spotV at HL
      go_wp2_with (at_lookup; refine wpList_lookS rfl _ _ 183 false rfl _ _ _ rfl rfl HL.out ?_)
      refine (ofTree_any e x cc _ hkk).mono ?_
      rintro r w4 ⟨rfl, hb4⟩
      have B4 := hide (below_next B3.out hb4)
      have X4 := hide (X3.out.below hb4)
      have BA5 := hide (below_alloc w4 (.cells #[.int .i64 (asT e).size, .slice x (asT e).chunks.length cc, .string (str (asT e).path), .int .i64 (asT e).kind] 93))
      have HR4 := hide (show Reads .i64 w4 x (asT e).chunks by rw [asT_chunks]; exact HRc.out.below hb4)
      have RI5 := hide (RdI.fresh (e := asT e) (c := cc) (t := 93) HR4.out)
      have hsm2 : (asT e).path.length ≤ 1048576 ∧ (asT e).chunks.length ≤ 1048576 := by rw [asT_path, asT_chunks]; exact hsm
      have B5 := hide (below_next B4.out BA5.out)
      have X5 := hide (X4.out.below BA5.out)
      have hs4 := B4.out.size
      have hlt5 : w.heap.size < (w4.alloc (.cells #[.int .i64 (asT e).size, .slice x (asT e).chunks.length cc, .string (str (asT e).path), .int .i64 (asT e).kind] 93)).heap.size := X5.out.1.lt
      clear hb4 y0 y1 y2 y3 Y3 HL HRc HR4 X3 B3 BB3 X4 BA5
      unfold itV
      generalize asT e = E at *
      go_wp2_with fail
      generalize w4.alloc (.cells #[.int .i64 E.size, .slice x E.chunks.length cc, .string (str E.path), .int .i64 E.kind] 93) = W5 at *
      refine (entriesOf_any _ _ 1 [E] _ RI5.out rfl (by simp) (fun y hy => by simp only [List.mem_singleton] at hy; subst hy; exact hsm2)).mono ?_
      rintro r w7 ⟨av7, cv7, rfl, hG7, hb7⟩
      obtain ⟨⟨t0, t1⟩, t2, t3⟩ := X5.out.below hb7
      have G7 := hide hG7
      have B7 := hide (below_next B5.out hb7)
      clear hG7 hb7
      go_wp2_with fail
      exact bodyPost_ret (v := .agg #[.int .i64 0, .slice av7 1 cv7]) (by simp [results, Tryz.results121, go_sem, t0, t1]) rfl (by rw [HC.out.1, HC.out.2.2]; exact ResE.of (w2 := w1) hlt5 (Nat.le_refl _) rfl G7.out B7.out)
  · have HC := hide (plc_bad hz)
    generalize askL ls p = F at *
    have hz2 : (F != 0) = true := by simp; exact hz
    clear hz
    go_enter Tryz.func121, Tryz.ntmps121
    go_wp2_with fail
    refine HAs.out.mono ?_
    rintro r w1 ⟨rfl, hb1⟩
    have B1 := hide (below_next B0.out hb1)
    obtain ⟨⟨t0, t1⟩, t2, t3⟩ := X0.out.below hb1
    clear hb1
    go_wp2_with fail
    exact bodyPost_ret (v := .agg #[.int .i64 F, .slice none 0 0]) (by simp [results, Tryz.results121, go_sem, t0, t1]) rfl (by rw [HC.out.1, HC.out.2.2]; exact ResE.bad (Nat.le_refl _) B1.out)
end Go.Proofs.YteegkblkfdnfiaaGreat

namespace Go.Proofs.YteegkblkfdnfiaaGreat
open Go.RowKit Go.Maps
set_option linter.unusedVariables false
attribute [local go_sem ↓] Go.wp_at_zero Go.wp_at_succ

set_option maxRecDepth 100000 in
set_option maxHeartbeats 1600000 in
theorem cloneMap_any (b : Nat) (es : Array MapEntry) (clock : Nat) (w : World) (hb : w.heap[b]? = some (.map es clock)) :
    Calls Tryz.prog 238 #[.map (some b)] w fun e w' => e = .returned (.map (some w.heap.size)) ∧ w' = w.alloc (.map es clock) := by
  have hq := fun w => run_eql_map_nil_sl (P := Tryz.prog) w 183 _ _ (some b) Tryz.underlying183
  go_enter Tryz.func238, Tryz.ntmps238
  go_wp2
  rw [run_callFunc_extern Tryz.func262 (by kernel_rfl) (by kernel_rfl) (by kernel_rfl) (e := Extern.MapsClone.clone) (by kernel_rfl), run_maps_clone_sl w 183 hb]
  simp only [Result.andThen]
  rw [Oper.upon_value]
  go_wp2
  rw [run_typeAssert_map_sl _ 183 _ _ _ _ Tryz.underlying183]
  simp only [Result.andThen]
  rw [Oper.upon_value]
  go_wp2
  go_ret
  exact ⟨rfl, rfl⟩
theorem cloneSee_any (b N : Nat) (S : Nat → Bs → Option En) (w0 w : World) (h : SeeM w0 w b N S) :
    Calls Tryz.prog 238 #[.map (some b)] w fun r w' => r = .returned (.map (some w.heap.size)) ∧ SeeM w0 w' w.heap.size N S ∧ Below w.heap.size w w' := by
  obtain ⟨Dt, A, C, h1, h2⟩ := h
  obtain ⟨es, clock, hb, F, hs, hD⟩ := h1
  refine (cloneMap_any b es clock w hb).mono fun e w' ⟨he, hw⟩ => ?_
  subst hw
  exact ⟨he, ⟨Dt, A, C, ⟨es, clock, (MapKept.heap_alloc w _).1, F, hs, hD⟩, h2⟩, below_alloc _ _⟩
def goneS (S : Nat → Bs → Option En) (i : Nat) (p : Bs) : Bool := !decide (seenG S p 4 = some i)
set_option maxRecDepth 100000 in
set_option maxHeartbeats 3200000 in
theorem seenLit_any (b N i bx : Nat) (p : Bs) (S : Nat → Bs → Option En) (e : En) (x : Option Addr) (cc : Nat) (w0 w : World) (h : SeeM w0 w b N S) (hp : p.length ≤ 1048576) (hx : w.cell? ⟨bx, 0, none⟩ = some (.map (some b))) :
    Calls Tryz.prog 240 (#[spotV i p, itV e x cc] ++ #[.pointer (some ⟨bx, 0, none⟩)]) w fun r w' => r = .returned (.bool (goneS S i p)) ∧ Below w.heap.size w w' := by
  have hbx : bx < w.heap.size := World.block_lt_of_cell? w ⟨bx, 0, none⟩ hx
  have BA := hide (below_alloc w (.cells #[.int .i64 i, .string (str p)] 186))
  have YA := hide (Box.new w (.int .i64 i) (.string (str p)) 186)
  have BB := hide (below_alloc (w.alloc (.cells #[.int .i64 i, .string (str p)] 186)) (.cells #[.int .i64 e.size, .slice x e.chunks.length cc, .string (str e.path), .int .i64 e.kind] 93))
  have B2 := hide (below_next BA.out BB.out)
  have Y2 := hide (YA.out.below BB.out)
  have HS := hide (seenAt_any b N p S w0 _ ((h.below BA.out).below BB.out) hp)
  have hx2 := (B2.out.cell (p := ⟨bx, 0, none⟩) hbx).trans hx
  obtain ⟨⟨y0, y1⟩, y2, y3⟩ := Y2.out
  clear BA YA BB h hx
  unfold spotV itV
  unfold ResW at HS
  cases hs : seenG S p 4 with
  | none =>
    have HG := hide (show goneS S i p = true by simp [goneS, hs])
    rw [hs] at HS
    clear hs
    go_enter Tryz.func240, Tryz.ntmps240
    go_wp2_with fail
    refine HS.out.mono ?_
    rintro r w3 ⟨⟨v, s, rfl⟩, hb3⟩
    have B3 := hide (below_next B2.out (below_next hb3 (below_alloc _ (.cells #[.int .i64 v, .string s] 186))))
    clear hb3 y0 y1 y2 y3
    go_wp2_with fail
    go_ret
    exact ⟨by rw [HG.out]; rfl, B3.out⟩
  | some k =>
    rw [hs] at HS
    have HG := hide (show goneS S i p = !decide (k = i) by simp [goneS, hs])
    clear hs
    unfold spotV at HS
    go_enter Tryz.func240, Tryz.ntmps240
    go_wp2_with fail
    refine HS.out.mono ?_
    rintro r w3 ⟨rfl, hb3⟩
    have BC := hide (below_next hb3 (below_alloc _ (.cells #[.int .i64 k, .string (str p)] 186)))
    have B3 := hide (below_next B2.out BC.out)
    clear y0 y1 y2 y3
    obtain ⟨⟨y0, y1⟩, y2, y3⟩ := Y2.out.below BC.out
    clear hb3
    by_cases hk : k = i
    · subst hk
      have HG2 := hide (show goneS S k p = false by rw [HG.out]; simp)
      go_wp2_with fail
      go_ret
      exact ⟨by rw [HG2.out]; rfl, B3.out⟩
    · have HG2 := hide (show goneS S i p = true by rw [HG.out]; simp [hk])
      have hk2 : ¬ (k : Int) = (i : Int) := by omega
      go_wp2_with fail
      go_ret
      exact ⟨by rw [HG2.out]; rfl, B3.out⟩
def AsksM (W0 : World) (b : Nat) (S : Nat → Bs → Option En) (fn : FuncId) (cap : Array Value) (f : Nat → Bs → Bool) : Prop :=
  (∀ args w, (callFunc fn args).run Tryz.prog w = .ok (.enter fn args) w) ∧ ∀ (i : Nat) (p : Bs) (e : En) (x : Option Addr) (cc : Nat) (w : World), i ≤ 100 → p.length ≤ 1048576 → Kept (fun y => y = b) W0 w →
    Calls Tryz.prog fn (#[spotV i p, itV e x cc] ++ cap) w fun r w' => r = .returned (.bool (f i p)) ∧ Below w.heap.size w w'
theorem key_pred (f : Nat → Bs → Bool) : ∃ pk : Lit → Bool, ∀ i p, i ≤ 100 → p.length ≤ 1048576 → pk (spotK i p) = f i p := by
  refine ⟨fun kl => @decide (∃ i p, i ≤ 100 ∧ p.length ≤ 1048576 ∧ kl = spotK i p ∧ f i p = true) (Classical.propDecidable _), fun i p hi hp => ?_⟩
  rw [Bool.eq_iff_iff, @decide_eq_true_iff _ (Classical.propDecidable _)]
  constructor
  · rintro ⟨j, q, hj, hq, he, hf⟩
    obtain ⟨rfl, rfl⟩ := spotK_inj hi hj hp hq he
    exact hf
  · intro hf; exact ⟨i, p, hi, hp, rfl, hf⟩
theorem drop_has {f : Lit → Bool} {es : List (Lit × DataW Value)} {kl : Lit} : has (Lib.deleteFuncD (fun k _ => f k) (.map es)) kl = (has (.map es) kl && !f kl) := by
  show (es.filter fun p => !f p.1).any (fun p => p.1.sameKey kl) = (es.any (fun p => p.1.sameKey kl) && !f kl)
  induction es with
  | nil => simp
  | cons x r ih =>
    cases hs : x.1.sameKey kl
    · cases hx : f x.1
      · rw [List.filter_cons_of_pos (by simp [hx]), List.any_cons, List.any_cons, hs, ih]; simp
      · rw [List.filter_cons_of_neg (by simp [hx]), List.any_cons, hs, ih]; simp
    · have e := WideAt.sameKey_eq hs
      cases hx : f x.1
      · have h0 : f kl = false := by rw [← e]; exact hx
        rw [List.filter_cons_of_pos (by simp [hx]), List.any_cons, List.any_cons, hs, h0]; simp
      · have h0 : f kl = true := by rw [← e]; exact hx
        rw [List.filter_cons_of_neg (by simp [hx]), ih, List.any_cons, hs, h0]; simp
theorem dropK_at {f : Lit → Bool} {es : List (Lit × DataW Value)} {kl : Lit} (hk : f kl = false) (z : DataW Value) : (Lib.deleteFuncD (fun k _ => f k) (.map es)).atKey kl z = (DataW.map es).atKey kl z := by
  have hfind : (es.filter fun p => !f p.1).find? (fun p => p.1.sameKey kl) = es.find? (fun p => p.1.sameKey kl) := by
    induction es with
    | nil => rfl
    | cons x r ih =>
      cases hs : x.1.sameKey kl
      · cases hx : f x.1
        · rw [List.filter_cons_of_pos (by simp [hx]), List.find?_cons_of_neg (by simp [hs]), List.find?_cons_of_neg (by simp [hs]), ih]
        · rw [List.filter_cons_of_neg (by simp [hx]), List.find?_cons_of_neg (by simp [hs]), ih]
      · have e := WideAt.sameKey_eq hs
        have hx : f x.1 = false := by rw [e]; exact hk
        rw [List.filter_cons_of_pos (by simp [hx]), List.find?_cons_of_pos (by simp [hs]), List.find?_cons_of_pos (by simp [hs])]
  simp only [Lib.deleteFuncD, DataW.atKey, hfind]
theorem at_has {es : List (Lit × DataW Value)} {kl : Lit} {d : DataW Value} (h : ∀ z, (DataW.map es).atKey kl z = d) : ∃ q ∈ es, q.1 = kl := by
  cases hf : es.find? (fun p => p.1.sameKey kl) with
  | some q => exact ⟨q, List.mem_of_find?_eq_some hf, WideAt.sameKey_eq (by simpa using List.find?_some hf)⟩
  | none =>
    have h1 := h .nil
    have h2 := h (.map [])
    simp only [DataW.atKey, hf] at h1 h2
    rw [← h1] at h2; cases h2
theorem grown_below {w w' : World} (h : Below w.heap.size w w') : w.grownBy w' none := ⟨h.os, h.tape, h.output, h.size, fun k hk _ => h.block k hk⟩
theorem see_came {S : Nat → Bs → Option En} {w0 : World} {A : Nat → Bs → Option Addr} {C : Nat → Bs → Nat} {es0 : List (Lit × DataW Value)} {pd : Lit → DataW Value → Bool} {left : Lit → Bool} {x c : Value} {kl : Lit} {yd : DataW Value} {yp : List MemPlace}
    (hap : es0.Pairwise (fun p q => p.1 ≠ q.1)) (h2 : ∀ i p, i ≤ 100 → p.length ≤ 1048576 → has (.map es0) (spotK i p) = (S i p).isSome)
    (h3 : ∀ i p e, i ≤ 100 → p.length ≤ 1048576 → S i p = some e → (∀ z, (DataW.map es0).atKey (spotK i p) z = .held (itV e (A i p) (C i p))) ∧ Reads .i64 w0 (A i p) e.chunks)
    (h4 : ∀ kl, has (.map es0) kl = true → ∃ i p, i ≤ 100 ∧ p.length ≤ 1048576 ∧ kl = spotK i p)
    (hkey : keyOf Tryz.prog 186 x = some kl) (hlx : left kl = true) (hv : RVs c = some (yd, yp)) (hat : ∀ z, (Fk pd es0 left).atKey kl z = yd) :
    ∃ i p e, i ≤ 100 ∧ p.length ≤ 1048576 ∧ kl = spotK i p ∧ x = spotV i p ∧ c = itV e (A i p) (C i p) ∧ S i p = some e := by
  have hk := spotLaw.key hkey
  have hc := at_cameK hap hk hlx hat
  obtain ⟨q, hq, hqk⟩ := at_has (show ∀ z, (DataW.map (es0.filter fun p => !pd p.1 p.2 || left p.1)).atKey kl z = yd from hat)
  have hq0 := (List.mem_filter.1 hq).1
  have hhas : has (.map es0) kl = true := List.any_eq_true.2 ⟨q, hq0, by rw [hqk]; exact WideAt.sameKey_self hk⟩
  obtain ⟨i, p, hi, hp, rfl⟩ := h4 kl hhas
  have hx : x = spotV i p := spotLaw.inj hkey (spot_key hi hp)
  rw [h2 i p hi hp] at hhas
  obtain ⟨e, he⟩ := Option.isSome_iff_exists.1 hhas
  have h5 := (h3 i p e hi hp he).1 .nil
  have h6 := WideAt.atKey_mem (H := Value) (entries := es0) (d := q.2) .nil hk hap (by rw [← hqk]; exact hq0)
  have h7 := hc q hq0 hqk
  rw [h6, h7] at h5
  simp only [RVs, Option.some.injEq, Prod.mk.injEq] at hv
  have h8 := hv.1.trans h5
  simp only [DataW.held.injEq] at h8
  exact ⟨i, p, e, hi, hp, rfl, hx, h8, he⟩
set_option maxRecDepth 100000 in
set_option maxHeartbeats 4000000 in
theorem deleteFunc_any (b N : Nat) (S : Nat → Bs → Option En) (fn : FuncId) (cap : Array Value) (f : Nat → Bs → Bool) (w0 w : World) (h : SeeM w0 w b N S) (hf : AsksM w b S fn cap f) :
    Calls Tryz.prog 239 #[.map (some b), .func (.func fn) #[] cap] w fun r w' => r = .returned (.tuple #[]) ∧ SeeM w0 w' b N (fun i p => if f i p then none else S i p) ∧ Kept (fun x => x = b) w w' := by
  obtain ⟨Dt, A, C, h1, h2, h3, h4⟩ := h
  obtain ⟨pk, hpk⟩ := key_pred f
  obtain ⟨es0, rfl, hap, hkeys⟩ := h1.entries spotLaw
  have hown := h1
  have eg := hf.1
  have HF := hide hf.2
  have H2 := hide h2
  have H3 := hide h3
  have H4 := hide h4
  have HP := hide hpk
  have HEnd := hide (show ∀ w', w'.ownsMap Tryz.prog 186 RVs b N (Lib.deleteFuncD (fun k _ => pk k) (.map es0)) → SeeM w0 w' b N (fun i p => if f i p then none else S i p) from fun w' ho => by
    refine ⟨_, A, C, ho, fun i p hi hp => ?_, fun i p e hi hp he => ?_, fun kl hkl => ?_⟩
    · rw [drop_has, H2.out i p hi hp, HP.out i p hi hp]
      cases hx : f i p <;> simp [hx]
    · have hfi : f i p = false := by
        cases hx : f i p
        · rfl
        · simp [hx] at he
      have hS : S i p = some e := by simpa [hfi] using he
      obtain ⟨g1, g2⟩ := H3.out i p e hi hp hS
      exact ⟨fun z => by rw [dropK_at (by rw [HP.out i p hi hp]; exact hfi)]; exact g1 z, g2⟩
    · rw [drop_has] at hkl
      exact H4.out kl (by simp at hkl; exact hkl.1))
  clear h2 h3 h4 hpk hf h1
  go_enter Tryz.func239, Tryz.ntmps239
  go_wp2_with (first
    | (at_range; refine wpList_range_own _ rfl _ 183 rfl 186 93 spotLaw Tryz.underlying183 RVs b N _ rfl hown ?_; intro w0 hrg0 hg0 hs0)
    | go_in)
  go_frame
  go_loopw [8] (fun _ wr => ∃ (left : Lit → Bool) (cnt : Nat), wr.ranges Tryz.prog 186 RVs b w.heap.size N (Fk (fun k _ => pk k) es0 left) left cnt ∧ w.grownBy wr (some b))
    (fun _ wr => wr.rangeLeft b w.heap.size)
  case atStart => exact ⟨_, _, by rw [Fk_start hkeys]; exact hrg0, hg0.but _⟩
  case round =>
    obtain ⟨left, cnt, hrg, hgw⟩ := hrel
    go_wp2_with (first
      | (at_next; refine wpList_next_ranges _ rfl _ rfl 186 spotLaw RVs id id (fun key _ _ => ⟨key, rfl⟩) (fun v _ _ => ⟨v, rfl⟩) b w.heap.size N _ _ _ rfl hrg ?_ ?_)
      | go_in)
    · intro _ hl0
      go_wp2
      go_end0
      exact ⟨rfl, HEnd.out _ (by rw [← Fk_end hl0]; exact hrg.owns), see_grown hgw⟩
    · intro x c kl yd yp w1 cnt1 hkey hlx hv hat hrg1 hlt hg1 hs1 hen
      obtain ⟨i, p, e, hi, hp, rfl, hx, hcc, he⟩ := see_came hap H2.out H3.out H4.out hkey hlx hv hat
      have hgw1 := hgw.andThen hg1 (fun j hj => by cases hj; exact Or.inl (Nat.le_refl _))
      have hx2 : x = spotV i p := hx
      have hc2 : c = itV e (A i p) (C i p) := hcc
      subst hx2 hc2
      clear hx hcc
      have BA := hide (below_alloc w1 (.cells #[.int .i64 i, .string (str p)] 186))
      have BB := hide (below_alloc (w1.alloc (.cells #[.int .i64 i, .string (str p)] 186)) (.cells #[.int .i64 e.size, .slice (A i p) e.chunks.length (C i p), .string (str e.path), .int .i64 e.kind] 93))
      have BC := hide (below_next BA.out BB.out)
      have YC := hide ((Box.new w1 (.int .i64 i) (.string (str p)) 186).below BB.out)
      have hc := HF.out i p e (A i p) (C i p) _ hi hp (see_grown (hgw1.andThen (grown_below BC.out) (fun j hj => by cases hj)))
      rw [hs1] at YC
      have HPK := hide (HP.out i p hi hp)
      have HHat := hide hat
      have HKy := hide hkey
      unfold spotV itV at hc hen ⊢
      clear BA BB he hat hkey hv
      cases hp2 : f i p
      · rw [hp2] at hc
        have HC := hide hc
        have hpk2 : pk (spotK i p) = false := HPK.out.trans hp2
        clear hc hp2
        go_wp2_with go_in
        refine HC.out.mono ?_
        rintro r w2 ⟨rfl, hb2⟩
        have hg2 := grown_below (below_next BC.out hb2)
        have hrg2 := hrg1.kept hg2 (by simp) (by simp)
        clear hb2 hen
        go_wp2_with go_in
        go_roundw
        case rel => exact ⟨_, cnt1, by rw [← Fk_stays hap (spotLaw.key HKy.out) hlx hpk2 HHat.out]; exact hrg2, hgw1.andThen hg2 (fun j hj => by cases hj)⟩
        case measure => rw [hrg2.left_eq, hrg.left_eq]; exact hlt
      · rw [hp2] at hc
        have HC := hide hc
        have hpk2 : pk (spotK i p) = true := HPK.out.trans hp2
        clear hc hp2
        go_wp2_with go_in
        refine HC.out.mono ?_
        rintro r w2 ⟨rfl, hb2⟩
        have hg2 := grown_below (below_next BC.out hb2)
        have hrg2 := hrg1.kept hg2 (by simp) (by simp)
        obtain ⟨⟨y0, y1⟩, y2, y3⟩ := YC.out.below hb2
        clear hb2 hen
        go_wp2_with (first
          | (at_delete; refine wpList_delete_ranges _ rfl _ _ 183 186 rfl 93 spotLaw Tryz.underlying183 RVs b w.heap.size N _ _ _ rfl hrg2 _ _ rfl HKy.out ?_; intro w3 cnt3 hrg3 hle hturn; go_frame)
          | go_in)
        rw [strike_twice] at hrg3
        go_roundw
        case rel => exact ⟨_, cnt3, by rw [← Fk_struck hap (spotLaw.key HKy.out) hlx hpk2 HHat.out]; exact hrg3, (hgw1.andThen hg2 (fun j hj => by cases hj)).andThen hturn.grown (fun j hj => by cases hj; exact Or.inr rfl)⟩
        case measure => rw [hrg3.left_eq, hrg.left_eq]; omega
end Go.Proofs.YteegkblkfdnfiaaGreat

