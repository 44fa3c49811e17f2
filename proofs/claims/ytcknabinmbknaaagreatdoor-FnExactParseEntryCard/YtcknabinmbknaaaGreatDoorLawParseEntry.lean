/-
  At every text the law FnExactParseEntry returns true, and the card that ties the listed variables to the program's text: ParseEntry answers as its model does, and its answer owns its memory. No condition but what the row lists.
-/
import Derived.Test.YtcknabinmbknaaaGreatDoorParW
import Derived.Test.YtcknabinmbknaaaGreatDoorParM
import Derived.Test.YtcknabinmbknaaaGreatDoorHandS
import Derived.Test.YtcknabinmbknaaaGreatDoorCards
import Derived.Test.YtcknabinmbknaaaGreatDoorTie
import Derived.ProofKit
import Derived.OpenShut
import Derived.ShutString
import Derived.ChangeOld
import Derived.LaidMore
import Derived.Lay
import Derived.SevenTiedAt
import Derived.Stop.Joined
import Derived.Stop.LaidErr
import Derived.OpenVars
import Derived.ChangeVars
namespace Go.Proofs.YtcknabinmbknaaaGreatDoor.parseEntry
open Go.ChangeShapes Go.WideShapes Go.ChangeAt Go.RowKit
set_option linter.unusedVariables false

theorem own : ownKnob Tryz.prog.godebug = none := by kernel_rfl
theorem laidOut : laidOutB Tryz.prog = true := by kernel_rfl
theorem walk (w : World) (u : TypeId) (vp : Value) (hg : Gl w u vp) (s : ByteArray) (hs : s.size ≤ maxLen) :
    Calls Tryz.prog 4 #[.string s] w fun e w' => e = .returned (.bool true) ∧ Below w.heap.size w w' := by
  have h := parseEntry_walk s.data.toList u vp w (by rw [← Lib.size_eq]; unfold maxLen at hs; omega) hg (fun hl w1 => l5Parse_any _ w1 hl)
  rw [str_of] at h
  exact h
theorem gVStar : "*" ++ "errors.errorString" = "*errors.errorString" := by decide
theorem gVRow (u : TypeId) (h : Tryz.prog.typeName? 3 u = some "*errors.errorString") : u = 182 :=
  typeName_ptr_named (nm := "errors.errorString") (by rw [gVStar]; kernel_rfl) (by kernel_rfl) (by decide) u (by rw [gVStar]; exact h)
theorem gV0 : Tryz.prog.globalNamed "loop.example/g00299/impl.errUnread" = some 0 := by kernel_rfl
theorem gVType0 : (Tryz.prog.globals[0]?).map (·.type) = some 91 := by kernel_rfl
theorem gV1 : Tryz.prog.globalNamed "strconv.ErrSyntax" = some 5 := by kernel_rfl
theorem gVType1 : (Tryz.prog.globals[5]?).map (·.type) = some 91 := by kernel_rfl
theorem gV2 : Tryz.prog.globalNamed "strconv.ErrRange" = some 6 := by kernel_rfl
theorem gVType2 : (Tryz.prog.globals[6]?).map (·.type) = some 91 := by kernel_rfl
theorem gM : Tryz.idxA_ren.g 1 = 2 := by kernel_rfl
theorem gS : Tryz.pintA_ren.g 15 = 5 := by kernel_rfl
theorem gR : Tryz.pintA_ren.g 16 = 6 := by kernel_rfl
set_option maxRecDepth 100000 in
set_option maxHeartbeats 800000 in
theorem lifted (os : Os) (started : os.Started) (H : Type) (enc : TypeId × Value → H) :
    ReturnsInHanded {} Tryz.checked os 4 .any (fun w args => (Rows.fnExactParseEntrySpec.pre enc Tryz.prog Tryz.f4 Rows.fnExactParseEntryRow.domain false w args ∧ laidMetH Tryz.prog Rows.fnExactParseEntryRow.laid w) ∧ sizedMet enc Tryz.prog Tryz.f4 (OpenSpec.ofChange Rows.fnExactParseEntrySpec) false w args)
      (Rows.fnExactParseEntrySpec.post enc Tryz.prog Tryz.f4 false true false false) := by
  refine returnsInHanded_shaped_and (C := Tryz.checked) (X := fun w _ => laidMetH Tryz.prog Rows.fnExactParseEntryRow.laid w) (fun _ _ _ hh h => h.of_heap hh) own started (by kernel_rfl) Tryz.func4
    (ChangeSpec.witness_shaped (enc := enc) (C := Tryz.checked) (os := os) (X := fun w _ => laidMetH Tryz.prog Rows.fnExactParseEntryRow.laid w) false (World.laidAll Tryz.prog os Rows.fnExactParseEntryRow.laid) #[.string ⟨#[]⟩] 8 (World.laidAll_os _ _ _)
      (World.shaped_of_ZipB (by kernel_rfl) (by kernel_rfl)) (by kernel_rfl) (by kernel_rfl) (by kernel_rfl)
      (by rw [MakeChecks.laidMetH_plain _ _ _ (by kernel_rfl)]; exact laidMet_laidAll _ (by kernel_rfl) (by kernel_rfl))) ?_
  intro W base args ds gs before hval0 hW hcnd hL hSh
  have hval : ∀ (j : Nat) t v, Tryz.f4.params[j]? = some t → args[j]? = some v → Value.okWide Tryz.prog W .any base t v := hval0
  have hW' := hW
  obtain ⟨p, q, hA0, hV, rfl, hfz, hnd⟩ := hW
  have hA : DataW.TrodAll enc Tryz.prog W 0 (fun _ => true) true Tryz.f4.params.toList args.toList ds p := hA0
  rw [Tryz.params4] at hA hval
  obtain ⟨v0, vs0, d0, ds0, p0, q0, hargs0, rfl, rfl, h0, r0⟩ := trodAll_cons hA
  obtain ⟨rfl, rfl, rfl⟩ := trodAll_nil r0
  obtain rfl : args = #[v0] := by cases args; simp_all
  obtain ⟨gg, tt, ccs, ffu, gd, gp, rfl, -, -, -, -, -⟩ := trodVars_one hV
  have hL' := hL
  rw [MakeChecks.laidMetH_plain _ _ _ (by kernel_rfl)] at hL'
  obtain ⟨av0, sv0, hv0, -, -, -⟩ := laid_sentinel (hL'.tail.tail.tail.tail.tail) gV0 gVType0 Tryz.underlying91 gVRow Tryz.underlying182 Tryz.underlying184 rfl rfl Tryz.underlying9 (by kernel_rfl) (by kernel_rfl)
  have hgv0 : W.cell? ⟨0, 0, none⟩ = some (.iface 182 (.pointer (some av0))) := by simpa using World.var?_cell gV0 hv0 0
  obtain ⟨av1, sv1, hv1, -, -, -⟩ := laid_sentinel (hL'.tail.tail.tail.tail) gV1 gVType1 Tryz.underlying91 gVRow Tryz.underlying182 Tryz.underlying184 rfl rfl Tryz.underlying9 (by kernel_rfl) (by kernel_rfl)
  have hgv1 : W.cell? ⟨5, 0, none⟩ = some (.iface 182 (.pointer (some av1))) := by simpa using World.var?_cell gV1 hv1 0
  obtain ⟨av2, sv2, hv2, -, -, -⟩ := laid_sentinel (hL'.tail.tail.tail) gV2 gVType2 Tryz.underlying91 gVRow Tryz.underlying182 Tryz.underlying184 rfl rfl Tryz.underlying9 (by kernel_rfl) (by kernel_rfl)
  have hgv2 : W.cell? ⟨6, 0, none⟩ = some (.iface 182 (.pointer (some av2))) := by simpa using World.var?_cell gV2 hv2 0
  have hmx := Go.Proofs.cell_of_shapedOpen_int (g := 2) (t := 3) (k := .i64) (zero := #[.int .i64 0]) hSh (by decide +kernel) (by kernel_rfl) rfl (by kernel_rfl) (by kernel_rfl) (by kernel_rfl)
  have hgv : Gl W 182 (.pointer (some av0)) := ⟨hgv0, by rw [gM]; exact hmx, by rw [gS]; exact ⟨_, hgv1, Or.inr ⟨_, _, rfl⟩⟩, by rw [gR]; exact ⟨_, hgv2, Or.inr ⟨_, _, rfl⟩⟩⟩
  obtain ⟨s0, rfl, rfl, rfl, hs0⟩ := Go.ChangeMaps.open_string Tryz.underlying9 (hval 0 9 v0 rfl rfl) h0
  clear hA0 hval0
  refine (walk W _ _ hgv s0 hs0).mono fun e W' ⟨he, bel⟩ => ?_
  subst he
  exact ⟨_, rfl, _, _, _, [], _, q, hW', trodAll_mk1 (shut_bool Tryz.underlying4 _), (trodAll_cons_mk (Go.ChangeMaps.shut_string Tryz.underlying9 hs0) trodAll_mk0), bel.trodVars laidOut (by kernel_rfl) hV, bel.frame _, fun h => by cases h⟩

theorem over : Rows.fnExactParseEntryRow.holds Tryz.pinned (OpenSpec.ofChange Rows.fnExactParseEntrySpec) :=
  OpenClaim.holds_of_wide 4 Tryz.f4 rfl rfl rfl rfl rfl rfl rfl ⟨rfl, rfl, rfl, rfl, rfl⟩ rfl rfl rfl rfl rfl (by kernel_rfl) Tryz.func4 (by kernel_rfl)
    (of_decide_eq_true (by kernel_rfl)) (by unfold Func.isWrapper; first | (rw [if_pos (by decide +kernel)]; kernel_rfl) | (rw [if_neg (by decide +kernel)]; exact ⟨rfl, rfl⟩))
    (fun os started H enc _ => lifted os started H enc)
theorem card : Rows.FnExactParseEntryCardSaid :=
  Claim7.holds_tied_plain_at .later [] [.data, .data, .data, .sentinel, .sentinel, .sentinel] true (true, "b3b4b47d6e552b17dfa9e0699678a80e7a275b7d6142afbd2564cce7a9e9638b") true over (fun _ h => by cases h) (by kernel_rfl) (fun _ h => by cases h) fnExactParseEntry_row_tie rfl ⟨rfl, rfl⟩ (by kernel_rfl) rfl
    (fun f fn hf hfn => by
      obtain rfl : f = 4 := Option.some.inj ((show Tryz.prog.funcNamed "loop.example/g00299/laws.FnExactParseEntry" = some 4 by kernel_rfl).symm.trans hf) |>.symm
      obtain rfl : fn = Tryz.f4 := (Option.some.inj (Tryz.func4.symm.trans hfn)).symm
      exact ⟨by kernel_rfl, fun j t ht => by
        rw [Tryz.params4] at ht
        have hm : t ∈ [9] := by simpa using Array.mem_of_getElem? ht
        have hall : ([9].all fun u => !Tryz.prog.wantsStandIn u) = true := by kernel_rfl
        exact (show Tryz.prog.wantsStandIn t = false by simpa using List.all_eq_true.1 hall t hm)⟩)
    (by kernel_rfl)
end Go.Proofs.YtcknabinmbknaaaGreatDoor.parseEntry
namespace Go.Proofs.YtcknabinmbknaaaGreatDoor
theorem fnExactParseEntryCard_holds : Rows.FnExactParseEntryCardSaid := parseEntry.card
#print axioms fnExactParseEntryCard_holds
end Go.Proofs.YtcknabinmbknaaaGreatDoor
