/-
  At every fetch, every digest and all bytes the law FnExactHearFetch returns true, and the card that ties the listed variables to the program's text: HearFetch answers as its model does, leaves its arguments alone, and its answer owns its memory. No condition but what the row lists.
-/
import Derived.Test.YtfamiehfpmjljaaGreatDoorKHearFe9
import Derived.Test.YtfamiehfpmjljaaGreatDoorKHearFe13
import Derived.Test.YtfamiehfpmjljaaGreatDoorCards
import Derived.Test.YtfamiehfpmjljaaGreatDoorTie
import Derived.ProofKit
import Derived.OpenShut
import Derived.ShutString
import Derived.ChangeOld
import Derived.LaidMore
import Derived.Lay
import Derived.SevenTiedAt
import Derived.Stop.Joined
import Derived.Stop.LaidErr
import Derived.OpenVars
import Derived.ChangeVars
namespace Go.Proofs.YtfamiehfpmjljaaGreatDoor.hearFetch
open Go.ChangeShapes Go.WideShapes Go.ChangeAt Go.RowKit Go.Maps
set_option linter.unusedVariables false

theorem own : ownKnob Tryz.prog.godebug = none := by kernel_rfl
theorem laidOut : laidOutB Tryz.prog = true := by kernel_rfl
set_option maxRecDepth 100000 in
set_option maxHeartbeats 800000 in
theorem lifted (os : Os) (started : os.Started) (H : Type) (enc : TypeId × Value → H) :
    ReturnsInHanded {} Tryz.checked os 6 .any (fun w args => (Rows.fnExactHearFetchSpec.pre enc Tryz.prog Tryz.f6 Rows.fnExactHearFetchRow.domain false w args ∧ laidMetH Tryz.prog Rows.fnExactHearFetchRow.laid w) ∧ sizedMet enc Tryz.prog Tryz.f6 (OpenSpec.ofChange Rows.fnExactHearFetchSpec) false w args)
      (Rows.fnExactHearFetchSpec.post enc Tryz.prog Tryz.f6 false true false false) := by
  refine returnsInHanded_of_change_and (C := Tryz.checked) (X := fun w _ => laidMetH Tryz.prog Rows.fnExactHearFetchRow.laid w) (fun _ _ _ hh h => h.of_heap hh) own started (by kernel_rfl) Tryz.func6
    (ChangeSpec.witness_shaped (enc := enc) (C := Tryz.checked) (os := os) (X := fun w _ => laidMetH Tryz.prog Rows.fnExactHearFetchRow.laid w) false (({ World.holding Tryz.prog os ⟨#[], #[], []⟩ with heap := (World.holding Tryz.prog os ⟨#[], #[], []⟩).heap.modify 2 fun | .cells _ t fz => .cells #[.iface 189 (.agg #[.pointer (some ⟨4, 76, none⟩)])] t fz | o => o } : World).layVars Tryz.prog (Rows.fnExactHearFetchRow.laid.filter fun x => x.2.handleName?.isNone)) #[.agg #[.slice none 0 0, .slice none 0 0, .slice none 0 0], .int .i64 0, .slice none 0 0] 8 (World.layVars_os _ _ _)
      (World.shaped_of_ZipB (by kernel_rfl) (by kernel_rfl)) (by kernel_rfl) (by kernel_rfl) (by kernel_rfl)
      (laidMetH_layVars _ (by kernel_rfl) (by kernel_rfl) (by kernel_rfl))) ?_
  intro W base args ds gs before hval0 hW hcnd _ hL _
  have hval : ∀ (j : Nat) t v, Tryz.f6.params[j]? = some t → args[j]? = some v → Value.okWide Tryz.prog W .any base t v := hval0
  have hW' := hW
  obtain ⟨p, q, hA0, hV, rfl, hfz, hnd⟩ := hW
  have hA : DataW.TrodAll enc Tryz.prog W 0 (fun _ => true) true Tryz.f6.params.toList args.toList ds p := hA0
  rw [Tryz.params6] at hA hval
  obtain ⟨v0, vs0, d0, ds0, p0, q0, hargs0, rfl, rfl, h0, r0⟩ := trodAll_cons hA
  obtain ⟨v1, vs1, d1, ds1, p1, q1, hargs1, rfl, rfl, h1, r1⟩ := trodAll_cons r0
  obtain ⟨v2, vs2, d2, ds2, p2, q2, hargs2, rfl, rfl, h2, r2⟩ := trodAll_cons r1
  obtain ⟨rfl, rfl, rfl⟩ := trodAll_nil r2
  obtain rfl : args = #[v0, v1, v2] := by cases args; simp_all
  obtain ⟨gg, tt, ccs, ffu, gd, gp, gg1, tt1, ccs1, ffu1, gd1, gp1, rfl, -, -, -, -, -, -, -, -, -⟩ := trodVars_two hV
  obtain ⟨av0, av1, hgv⟩ := ge_of_laid hL
  obtain ⟨cs0, rfl, -⟩ := okWide_struct Tryz.underlying51 (hval 0 51 v0 rfl rfl)
  have k0 := h0
  have lt0 : ∀ x ∈ p0, x.block < W.heap.size := by obtain ⟨m, hm⟩ := k0; exact DataW.trod_lt m _ _ _ hm
  obtain ⟨fuel0, hf0⟩ := h0
  obtain ⟨wa0, wc0, Ws0, fa0, fc0, F0, ca0, cc0, n0, D0, P0, hcs0, rd0, mx0, in0⟩ := fetch_of_trod (by simpa [Value.cells] using hf0)
  obtain rfl : cs0 = #[.slice wa0 Ws0.length wc0, .slice fa0 F0.length fc0, .slice ca0 n0 cc0] := by cases cs0; simp_all
  obtain ⟨a1, rfl, rfl, rfl, w1⟩ := open_int Tryz.underlying2 (hval 1 2 v1 rfl rfl) h1
  obtain ⟨a2, len2, cap2, rfl⟩ := okWide_slice Tryz.underlying22 (hval 2 22 v2 rfl rfl)
  have k2 := h2
  have lt2 : ∀ x ∈ p2, x.block < W.heap.size := by obtain ⟨m, hm⟩ := k2; exact DataW.trod_lt m _ _ _ hm
  obtain ⟨fuel2, hf2⟩ := h2
  obtain ⟨zs2, hlen2, rd2, u2, mx2⟩ := bytes_of_trod (by simpa [Value.cells] using hf2)
  subst hlen2
  clear hA0 hval0
  refine (walk W _ _ hgv wa0 wc0 Ws0 fa0 fc0 F0 ca0 cc0 n0 D0 P0 rd0 mx0 in0 a1 w1 a2 cap2 zs2 rd2 u2 mx2).mono fun e W' ⟨he, bel⟩ => ?_
  subst he
  exact ⟨_, rfl, _, _, _, [], _, q, hW', trodAll_mk1 (shut_bool Tryz.underlying4 _), (trodAll_cons_mk (Below.trod laidOut (by kernel_rfl) (of_decide_eq_true (by kernel_rfl)) k0 bel lt0) (trodAll_cons_mk (shut_int Tryz.underlying2 w1) (trodAll_cons_mk (Below.trod laidOut (by kernel_rfl) (of_decide_eq_true (by kernel_rfl)) k2 bel lt2) trodAll_mk0))), bel.trodVars laidOut (by kernel_rfl) hV, bel.frame _, fun h => by cases h⟩

theorem over : Rows.fnExactHearFetchRow.holds Tryz.pinned (OpenSpec.ofChange Rows.fnExactHearFetchSpec) :=
  OpenClaim.holds_of_wide 6 Tryz.f6 rfl rfl rfl rfl rfl rfl rfl ⟨rfl, rfl, rfl, rfl, rfl⟩ rfl rfl rfl rfl rfl (by kernel_rfl) Tryz.func6 (by kernel_rfl)
    (of_decide_eq_true (by kernel_rfl)) (by unfold Func.isWrapper; first | (rw [if_pos (by decide +kernel)]; kernel_rfl) | (rw [if_neg (by decide +kernel)]; exact ⟨rfl, rfl⟩))
    (fun os started H enc _ => lifted os started H enc)
theorem card : Rows.FnExactHearFetchCardSaid :=
  Claim7.holds_tied_plain_at .later [] [.handle, .sentinel, .sentinel] true (true, "cf2cb451c673513ff2a688e9636d451659a2fa732e06a9d36d6964096a6800c7") true over (fun _ h => by cases h) (by kernel_rfl) (fun _ h => by cases h) fnExactHearFetch_row_tie rfl ⟨rfl, rfl⟩ (by kernel_rfl) rfl
    (fun f fn hf hfn => by
      obtain rfl : f = 6 := Option.some.inj ((show Tryz.prog.funcNamed "loop.example/g00299/laws.FnExactHearFetch" = some 6 by kernel_rfl).symm.trans hf) |>.symm
      obtain rfl : fn = Tryz.f6 := (Option.some.inj (Tryz.func6.symm.trans hfn)).symm
      exact ⟨by kernel_rfl, fun j t ht => by
        rw [Tryz.params6] at ht
        have hm : t ∈ [51, 2, 22] := by simpa using Array.mem_of_getElem? ht
        have hall : ([51, 2, 22].all fun u => !Tryz.prog.wantsStandIn u) = true := by kernel_rfl
        exact (show Tryz.prog.wantsStandIn t = false by simpa using List.all_eq_true.1 hall t hm)⟩)
    (by kernel_rfl)
end Go.Proofs.YtfamiehfpmjljaaGreatDoor.hearFetch
namespace Go.Proofs.YtfamiehfpmjljaaGreatDoor
theorem fnExactHearFetchCard_holds : Rows.FnExactHearFetchCardSaid := hearFetch.card
#print axioms fnExactHearFetchCard_holds
end Go.Proofs.YtfamiehfpmjljaaGreatDoor

