/-
  At every text the law FnExactParseManifest returns true, and the card that ties the listed variable to the program's text: ParseManifest answers as its model does, and its answer owns its memory. No condition but what the row lists.
-/
import Derived.Test.YtokcibegjhfofalDoorManZ
import Derived.Test.YtokcibegjhfofalDoorCards
import Derived.Test.YtokcibegjhfofalDoorTie
import Derived.ProofKit
import Derived.OpenShut
import Derived.ShutString
import Derived.ChangeOld
import Derived.LaidMore
import Derived.Lay
import Derived.SevenTiedAt
import Derived.Stop.Joined
import Derived.Stop.LaidErr
import Derived.OpenVars
import Derived.ChangeVars
namespace Go.Proofs.YtokcibegjhfofalDoor.parseManifest
open Go.ChangeShapes Go.WideShapes Go.ChangeAt Go.RowKit
set_option linter.unusedVariables false

theorem own : ownKnob Tryd.prog.godebug = none := by kernel_rfl
theorem laidOut : laidOutB Tryd.prog = true := by kernel_rfl
theorem walk (w : World) (u : TypeId) (vp : Value) (hg : w.cell? ⟨0, 0, none⟩ = some (.iface u vp)) (s : ByteArray) (hs : s.size ≤ maxLen) :
    Calls Tryd.prog 3 #[.string s] w fun e w' => e = .returned (.bool true) ∧ Below w.heap.size w w' := by
  have h := parseManifest_walk s.data.toList u vp w (by rw [← Lib.size_eq]; unfold maxLen at hs; omega) hg
  rw [str_of] at h
  exact h
theorem gV : Tryd.prog.globalNamed "loop.example/g00299/impl.errUnread" = some 0 := by kernel_rfl
theorem gVType : (Tryd.prog.globals[0]?).map (·.type) = some 50 := by kernel_rfl
theorem gVStar : "*" ++ "errors.errorString" = "*errors.errorString" := by decide
theorem gVRow (u : TypeId) (h : Tryd.prog.typeName? 3 u = some "*errors.errorString") : u = 84 :=
  typeName_ptr_named (nm := "errors.errorString") (by rw [gVStar]; kernel_rfl) (by kernel_rfl) (by decide) u (by rw [gVStar]; exact h)
set_option maxRecDepth 100000 in
set_option maxHeartbeats 800000 in
theorem lifted (os : Os) (started : os.Started) (H : Type) (enc : TypeId × Value → H) :
    ReturnsInHanded {} Tryd.checked os 3 .any (fun w args => (Rows.fnExactParseManifestSpec.pre enc Tryd.prog Tryd.f3 Rows.fnExactParseManifestRow.domain false w args ∧ laidMetH Tryd.prog Rows.fnExactParseManifestRow.laid w) ∧ sizedMet enc Tryd.prog Tryd.f3 (OpenSpec.ofChange Rows.fnExactParseManifestSpec) false w args)
      (Rows.fnExactParseManifestSpec.post enc Tryd.prog Tryd.f3 false true false false) := by
  refine returnsInHanded_of_change_and (C := Tryd.checked) (X := fun w _ => laidMetH Tryd.prog Rows.fnExactParseManifestRow.laid w) (fun _ _ _ hh h => h.of_heap hh) own started (by kernel_rfl) Tryd.func3
    (ChangeSpec.witness_shaped (enc := enc) (C := Tryd.checked) (os := os) (X := fun w _ => laidMetH Tryd.prog Rows.fnExactParseManifestRow.laid w) false (World.laidAll Tryd.prog os Rows.fnExactParseManifestRow.laid) #[.string ⟨#[]⟩] 8 (World.laidAll_os _ _ _)
      (World.shaped_of_ZipB (by kernel_rfl) (by kernel_rfl)) (by kernel_rfl) (by kernel_rfl) (by kernel_rfl)
      (by rw [MakeChecks.laidMetH_plain _ _ _ (by kernel_rfl)]; exact laidMet_laidAll _ (by kernel_rfl) (by kernel_rfl))) ?_
  intro W base args ds gs before hval0 hW hcnd _ hL _
  have hval : ∀ (j : Nat) t v, Tryd.f3.params[j]? = some t → args[j]? = some v → Value.okWide Tryd.prog W .any base t v := hval0
  have hW' := hW
  obtain ⟨p, q, hA0, hV, rfl, hfz, hnd⟩ := hW
  have hA : DataW.TrodAll enc Tryd.prog W 0 (fun _ => true) true Tryd.f3.params.toList args.toList ds p := hA0
  rw [Tryd.params3] at hA hval
  obtain ⟨v0, vs0, d0, ds0, p0, q0, hargs0, rfl, rfl, h0, r0⟩ := trodAll_cons hA
  obtain ⟨rfl, rfl, rfl⟩ := trodAll_nil r0
  obtain rfl : args = #[v0] := by cases args; simp_all
  obtain ⟨gg, tt, ccs, ffu, gd, gp, rfl, -, -, -, -, -⟩ := trodVars_one hV
  have hL' := hL
  rw [MakeChecks.laidMetH_plain _ _ _ (by kernel_rfl)] at hL'
  obtain ⟨av1, sv1, hv1, -, -, -⟩ := laid_sentinel hL' gV gVType Tryd.underlying50 gVRow Tryd.underlying84 Tryd.underlying99 rfl rfl Tryd.underlying9 (by kernel_rfl) (by kernel_rfl)
  have hgv : W.cell? ⟨0, 0, none⟩ = some (.iface 84 (.pointer (some av1))) := by simpa using World.var?_cell gV hv1 0
  obtain ⟨s0, rfl, rfl, rfl, hs0⟩ := Go.ChangeMaps.open_string Tryd.underlying9 (hval 0 9 v0 rfl rfl) h0
  clear hA0 hval0
  refine (walk W _ _ hgv s0 hs0).mono fun e W' ⟨he, bel⟩ => ?_
  subst he
  exact ⟨_, rfl, _, _, _, [], _, q, hW', trodAll_mk1 (shut_bool Tryd.underlying4 _), (trodAll_cons_mk (Go.ChangeMaps.shut_string Tryd.underlying9 hs0) trodAll_mk0), bel.trodVars laidOut (by kernel_rfl) hV, bel.frame _, fun h => by cases h⟩

theorem over : Rows.fnExactParseManifestRow.holds Tryd.pinned (OpenSpec.ofChange Rows.fnExactParseManifestSpec) :=
  OpenClaim.holds_of_wide 3 Tryd.f3 rfl rfl rfl rfl rfl rfl rfl ⟨rfl, rfl, rfl, rfl, rfl⟩ rfl rfl rfl rfl rfl (by kernel_rfl) Tryd.func3 (by kernel_rfl)
    (of_decide_eq_true (by kernel_rfl)) (by unfold Func.isWrapper; first | (rw [if_pos (by decide +kernel)]; kernel_rfl) | (rw [if_neg (by decide +kernel)]; exact ⟨rfl, rfl⟩))
    (fun os started H enc _ => lifted os started H enc)
theorem card : Rows.FnExactParseManifestCardSaid :=
  Claim7.holds_tied_plain_at .later [] [.sentinel] true (true, "b73004b02dc5e3aa9f0696cff8d1fba7e041a131b709e0becd4648058b5af026") false over (fun _ h => by cases h) (by kernel_rfl) (fun _ h => by cases h) fnExactParseManifest_row_tie rfl ⟨rfl, rfl⟩ (by kernel_rfl) rfl
    (fun f fn hf hfn => by
      obtain rfl : f = 3 := Option.some.inj ((show Tryd.prog.funcNamed "loop.example/g00299/laws.FnExactParseManifest" = some 3 by kernel_rfl).symm.trans hf) |>.symm
      obtain rfl : fn = Tryd.f3 := (Option.some.inj (Tryd.func3.symm.trans hfn)).symm
      exact ⟨by kernel_rfl, fun j t ht => by
        rw [Tryd.params3] at ht
        have hm : t ∈ [9] := by simpa using Array.mem_of_getElem? ht
        have hall : ([9].all fun u => !Tryd.prog.wantsStandIn u) = true := by kernel_rfl
        exact (show Tryd.prog.wantsStandIn t = false by simpa using List.all_eq_true.1 hall t hm)⟩)
    (by kernel_rfl)
end Go.Proofs.YtokcibegjhfofalDoor.parseManifest
namespace Go.Proofs.YtokcibegjhfofalDoor
theorem fnExactParseManifestCard_holds : Rows.FnExactParseManifestCardSaid := parseManifest.card
#print axioms fnExactParseManifestCard_holds
end Go.Proofs.YtokcibegjhfofalDoor
