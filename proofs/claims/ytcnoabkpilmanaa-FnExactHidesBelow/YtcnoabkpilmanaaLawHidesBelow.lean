/-
  At every list of entries and every text the law FnExactHidesBelow returns true: HidesBelow answers as its model does and leaves its arguments alone. No condition.
-/
import Derived.Test.YtcnoabkpilmanaaSeeD
import Derived.Test.YtcnoabkpilmanaaOvrN
import Derived.Test.YtcnoabkpilmanaaEntT
import Derived.ProofKit
import Derived.OpenShut
import Derived.ShutString
import Derived.ChangeOld
namespace Go.Proofs.Ytcnoabkpilmanaa.hidesBelow
open Go.ChangeShapes Go.WideShapes Go.ChangeAt Go.RowKit
set_option linter.unusedVariables false

theorem own : ownKnob Try.prog.godebug = none := by kernel_rfl
theorem laidOut : laidOutB Try.prog = true := by kernel_rfl

set_option maxRecDepth 100000 in
set_option maxHeartbeats 4000000 in
theorem walk' (w : World) (a0 : Option Addr) (c0 : Nat) (es : List En) (h0 : RdE w a0 es) (m0 : es.length ≤ maxLen) (i0 : ∀ e ∈ es, e.path.length ≤ maxLen ∧ e.chunks.length ≤ maxLen) (p : Bs) (hp : p.length ≤ maxLen) :
    Calls Try.prog 3 #[.slice a0 es.length c0, .string (str p)] w fun r w' => r = .returned (.bool true) ∧ Below w.heap.size w w' := by
  unfold maxLen at m0 i0 hp
  have HA := hide h0
  have hsz := str_size p
  clear h0
  by_cases hbig : 1048576 < p.length
  · have hb : (1048576 : Int) < ((str p).size : Int) := by omega
    clear hsz
    go_enter Try.func3, Try.ntmps3
    go_wp2_with fail
    go_ret
    exact ⟨rfl, Below.refl _ _⟩
  · have hb : ¬ (1048576 : Int) < ((str p).size : Int) := by omega
    have hpl : p.length ≤ 1048576 := by omega
    clear hsz hbig
    by_cases hfit : (es.length : Int) + (szE es : Int) ≤ 1048576
    · have hleft : ¬ ((1048576 : Int) - es.length - szE es) < 0 := by omega
      have hl : es.length ≤ 1048576 := by omega
      have HS := hide (szE_small (es := es) (by omega))
      have HC := hide (fun e he => (HS.out e he).2)
      clear i0
      go_enter Try.func3, Try.ntmps3
      go_wp2_with fail
      refine (szEntryS_fits a0 c0 es.length es 1048576 _ HA.out rfl (by decide) hfit).mono ?_
      rintro r w1 ⟨rfl, b1⟩
      have B1 := hide b1
      clear b1
      go_wp2_with fail
      refine (toEntryS_any a0 c0 es.length es _ (HA.out.below B1.out) rfl hl HS.out).mono ?_
      rintro r w3 ⟨g3, rfl, -, G3, b3⟩
      have R3 := hide G3.rd
      have B3 := hide (below_next B1.out b3)
      clear b3 B1 G3
      go_wp2_with fail
      refine (specHidesBelow_any _ _ es.length es p _ R3.out rfl hl HS.out hpl).mono ?_
      rintro r w5 ⟨rfl, b5⟩
      have B5 := hide (below_next B3.out b5)
      clear b5 B3 R3
      generalize hZ : hidB es p = Z
      have HZ := hide hZ
      clear hZ
      go_wp2_with fail
      refine (toEntryS_any a0 c0 es.length es _ (HA.out.below B5.out) rfl hl HS.out).mono ?_
      rintro r w6 ⟨g6, rfl, -, G6, b6⟩
      have R6 := hide G6.rd
      have B6 := hide (below_next B5.out b6)
      clear b6 B5 G6
      go_wp2_with fail
      refine (implHidesBelow_any _ _ es.length es p _ R6.out rfl hl HS.out hpl).mono ?_
      rintro r w8 ⟨rfl, b8⟩
      rw [HZ.out]
      have R8 := hide (R6.out.below b8)
      have B8 := hide (below_next B6.out b8)
      clear b8 B6 R6
      have hzz : (Z != Z) = false := by simp
      go_wp2_with fail
      refine (toEntryS_any a0 c0 es.length es _ (HA.out.below B8.out) rfl hl HS.out).mono ?_
      rintro r w9 ⟨g9, rfl, -, G9, b9⟩
      have R9 := hide G9.rd
      have R69 := hide (R8.out.below b9)
      have B9 := hide (below_next B8.out b9)
      clear b9 B8 G9 R8
      go_wp2_with fail
      refine (eqEntryS_same _ _ _ _ es.length es _ R69.out R9.out rfl hl HC.out).mono ?_
      rintro r w10 ⟨rfl, b10⟩
      have B10 := hide (below_next B9.out b10)
      clear b10 B9 R69 R9
      go_wp2_with fail
      go_ret
      exact ⟨rfl, B10.out⟩
    · go_enter Try.func3, Try.ntmps3
      go_wp2_with fail
      refine (szEntryS_not a0 c0 es.length es 1048576 _ HA.out rfl (by decide) (by decide) (by omega) (fun e he => by have := i0 e he; omega) (by omega)).mono ?_
      rintro r w1 ⟨rfl, b1⟩
      have B1 := hide b1
      clear b1
      go_wp2_with fail
      go_ret
      exact ⟨rfl, B1.out⟩
theorem walk (w : World) (a0 : Option Addr) (c0 : Nat) (es : List En) (h0 : RdE w a0 es) (m0 : es.length ≤ maxLen) (i0 : ∀ e ∈ es, e.path.length ≤ maxLen ∧ e.chunks.length ≤ maxLen) (s : ByteArray) (hs : s.size ≤ maxLen) :
    Calls Try.prog 3 #[.slice a0 es.length c0, .string s] w fun r w' => r = .returned (.bool true) ∧ Below w.heap.size w w' := by
  have h := walk' w a0 c0 es h0 m0 i0 s.data.toList (by rw [← Lib.size_eq]; exact hs)
  rw [str_of] at h
  exact h
set_option maxRecDepth 100000 in
set_option maxHeartbeats 800000 in
theorem lifted (os : Os) (started : os.Started) (H : Type) (enc : TypeId × Value → H) :
    ReturnsInHanded {} Try.checked os 3 .any (Rows.fnExactHidesBelowSpec.pre6 enc Try.prog Try.f3 Rows.fnExactHidesBelowRow.domain false) (Rows.fnExactHidesBelowSpec.post enc Try.prog Try.f3 false true false false) := by
  refine returnsInHanded_of_change (C := Try.checked) own started (by kernel_rfl) Try.func3
    (ChangeSpec.witness6 (enc := enc) (C := Try.checked) false ⟨#[], #[.slice none 0 0, .string ⟨#[]⟩], []⟩ 8 (by kernel_rfl) (by kernel_rfl) (by kernel_rfl) (by kernel_rfl)) ?_
  intro W base args ds gs before hval0 hW hcnd _
  have hval : ∀ (j : Nat) t v, Try.f3.params[j]? = some t → args[j]? = some v → Value.okWide Try.prog W .any base t v := hval0
  have hW' := hW
  obtain ⟨p, q, hA0, hV, rfl, hfz, hnd⟩ := hW
  have hA : DataW.TrodAll enc Try.prog W 0 (fun _ => true) true Try.f3.params.toList args.toList ds p := hA0
  rw [Try.params3] at hA hval
  obtain ⟨v0, vs0, d0, ds0, p0, q0, hargs0, rfl, rfl, h0, r0⟩ := trodAll_cons hA
  obtain ⟨v1, vs1, d1, ds1, p1, q1, hargs1, rfl, rfl, h1, r1⟩ := trodAll_cons r0
  obtain ⟨rfl, rfl, rfl⟩ := trodAll_nil r1
  obtain rfl : args = #[v0, v1] := by cases args; simp_all
  obtain ⟨rfl, rfl⟩ := trodVars_none hV
  obtain ⟨a0, len0, cap0, rfl⟩ := okWide_slice Try.underlying22 (hval 0 22 v0 rfl rfl)
  have k0 := h0
  have lt0 : ∀ x ∈ p0, x.block < W.heap.size := by obtain ⟨m, hm⟩ := k0; exact DataW.trod_lt m _ _ _ hm
  obtain ⟨fuel0, hf0⟩ := h0
  obtain ⟨es0, hlen0, rd0, mx0, in0⟩ := entries_of_trod (by simpa [Value.cells] using hf0)
  subst hlen0
  obtain ⟨s1, rfl, rfl, rfl, hs1⟩ := Go.ChangeMaps.open_string Try.underlying9 (hval 1 9 v1 rfl rfl) h1
  clear hA0 hval0
  refine (walk W a0 cap0 es0 rd0 mx0 in0 s1 hs1).mono fun e W' ⟨he, bel⟩ => ?_
  subst he
  exact ⟨_, rfl, _, _, _, [], _, [], hW', trodAll_mk1 (shut_bool Try.underlying4 _), (trodAll_cons_mk (Below.trod laidOut (by kernel_rfl) (of_decide_eq_true (by kernel_rfl)) k0 bel lt0) (trodAll_cons_mk (Go.ChangeMaps.shut_string Try.underlying9 hs1) trodAll_mk0)), rfl, bel.frame _, fun h => by cases h⟩

theorem over : Rows.fnExactHidesBelowRow.holds Try.pinned (OpenSpec.ofChange Rows.fnExactHidesBelowSpec) :=
  OpenClaim.holds_of_wide 3 Try.f3 rfl rfl rfl rfl rfl rfl rfl ⟨rfl, rfl, rfl, rfl, rfl⟩ rfl rfl rfl rfl rfl (by kernel_rfl) Try.func3 (by kernel_rfl)
    (of_decide_eq_true (by kernel_rfl)) (by unfold Func.isWrapper; first | (rw [if_pos (by decide +kernel)]; kernel_rfl) | (rw [if_neg (by decide +kernel)]; exact ⟨rfl, rfl⟩))
    (fun os started H enc _ => lifted os started H enc)
end Go.Proofs.Ytcnoabkpilmanaa.hidesBelow
namespace Go.Proofs.Ytcnoabkpilmanaa
theorem fnExactHidesBelow_holds : Rows.FnExactHidesBelowSaid := hidesBelow.over
#print axioms fnExactHidesBelow_holds
end Go.Proofs.Ytcnoabkpilmanaa
