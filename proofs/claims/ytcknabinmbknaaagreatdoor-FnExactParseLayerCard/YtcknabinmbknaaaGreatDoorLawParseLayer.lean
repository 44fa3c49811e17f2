/-
  At every byte slice the law FnExactParseLayer returns true, and the card that ties the listed variables to the program's text: ParseLayer answers as its model does, and its answer owns its memory. No condition but what the row lists.
-/
import Derived.Test.YtcknabinmbknaaaGreatDoorParV
import Derived.Test.YtcknabinmbknaaaGreatDoorHandS
import Derived.Test.YtcknabinmbknaaaGreatDoorCards
import Derived.Test.YtcknabinmbknaaaGreatDoorTie
import Derived.ProofKit
import Derived.OpenShut
import Derived.ShutString
import Derived.ChangeOld
import Derived.LaidMore
import Derived.Lay
import Derived.SevenTiedAt
import Derived.Stop.Joined
import Derived.Stop.LaidErr
import Derived.OpenVars
import Derived.ChangeVars
namespace Go.Proofs.YtcknabinmbknaaaGreatDoor.parseLayer
open Go.ChangeShapes Go.WideShapes Go.ChangeAt Go.RowKit
set_option linter.unusedVariables false

theorem own : ownKnob Tryz.prog.godebug = none := by kernel_rfl
theorem laidOut : laidOutB Tryz.prog = true := by kernel_rfl
theorem bytes_of_trod {H : Type} {enc : TypeId × Value → H} {W : World} {a : Option Addr} {n c fuel : Nat} {x : DataW H × List MemPlace}
    (h : DataW.trod enc Tryz.prog W 0 (fun _ => true) true fuel 22 [.slice a n c] = some x) : ∃ zs : List Int, zs.length = n ∧ Reads .u8 W a zs ∧ U8 zs ∧ zs.length ≤ maxLen := by
  rcases open_ints Tryz.underlying22 Tryz.underlying5 (by kernel_rfl) h with ⟨hcs, _⟩ | ⟨x, l, c, zs, hcs, _, hl, hm, hz, _, hcell, hwz⟩
  · simp at hcs
    obtain ⟨rfl, rfl, rfl⟩ := hcs
    exact ⟨[], rfl, fun h => absurd rfl h, fun z hz => by simp at hz, Nat.zero_le _⟩
  · simp at hcs
    obtain ⟨rfl, rfl, rfl⟩ := hcs
    exact reads_of_row (by simpa using hz) hl hm hcell hwz
theorem walk (w : World) (u : TypeId) (vp : Value) (hg : Gl w u vp) (a : Option Addr) (cap : Nat) (zs : List Int) (h : Reads .u8 w a zs) (hu : U8 zs) (hmax : zs.length ≤ maxLen) :
    Calls Tryz.prog 5 #[.slice a zs.length cap] w fun e w' => e = .returned (.bool true) ∧ Below w.heap.size w w' :=
  parseLayer_walk a cap zs u vp w h (by unfold maxLen at hmax; omega) hg
theorem gVStar : "*" ++ "errors.errorString" = "*errors.errorString" := by decide
theorem gVRow (u : TypeId) (h : Tryz.prog.typeName? 3 u = some "*errors.errorString") : u = 182 :=
  typeName_ptr_named (nm := "errors.errorString") (by rw [gVStar]; kernel_rfl) (by kernel_rfl) (by decide) u (by rw [gVStar]; exact h)
theorem gV0 : Tryz.prog.globalNamed "loop.example/g00299/impl.errUnread" = some 0 := by kernel_rfl
theorem gVType0 : (Tryz.prog.globals[0]?).map (·.type) = some 91 := by kernel_rfl
theorem gV1 : Tryz.prog.globalNamed "strconv.ErrSyntax" = some 5 := by kernel_rfl
theorem gVType1 : (Tryz.prog.globals[5]?).map (·.type) = some 91 := by kernel_rfl
theorem gV2 : Tryz.prog.globalNamed "strconv.ErrRange" = some 6 := by kernel_rfl
theorem gVType2 : (Tryz.prog.globals[6]?).map (·.type) = some 91 := by kernel_rfl
theorem gM : Tryz.idxA_ren.g 1 = 2 := by kernel_rfl
theorem gS : Tryz.pintA_ren.g 15 = 5 := by kernel_rfl
theorem gR : Tryz.pintA_ren.g 16 = 6 := by kernel_rfl
set_option maxRecDepth 100000 in
set_option maxHeartbeats 800000 in
theorem lifted (os : Os) (started : os.Started) (H : Type) (enc : TypeId × Value → H) :
    ReturnsInHanded {} Tryz.checked os 5 .any (fun w args => (Rows.fnExactParseLayerSpec.pre enc Tryz.prog Tryz.f5 Rows.fnExactParseLayerRow.domain false w args ∧ laidMetH Tryz.prog Rows.fnExactParseLayerRow.laid w) ∧ sizedMet enc Tryz.prog Tryz.f5 (OpenSpec.ofChange Rows.fnExactParseLayerSpec) false w args)
      (Rows.fnExactParseLayerSpec.post enc Tryz.prog Tryz.f5 false true false false) := by
  refine returnsInHanded_shaped_and (C := Tryz.checked) (X := fun w _ => laidMetH Tryz.prog Rows.fnExactParseLayerRow.laid w) (fun _ _ _ hh h => h.of_heap hh) own started (by kernel_rfl) Tryz.func5
    (ChangeSpec.witness_shaped (enc := enc) (C := Tryz.checked) (os := os) (X := fun w _ => laidMetH Tryz.prog Rows.fnExactParseLayerRow.laid w) false (World.laidAll Tryz.prog os Rows.fnExactParseLayerRow.laid) #[.slice none 0 0] 8 (World.laidAll_os _ _ _)
      (World.shaped_of_ZipB (by kernel_rfl) (by kernel_rfl)) (by kernel_rfl) (by kernel_rfl) (by kernel_rfl)
      (by rw [MakeChecks.laidMetH_plain _ _ _ (by kernel_rfl)]; exact laidMet_laidAll _ (by kernel_rfl) (by kernel_rfl))) ?_
  intro W base args ds gs before hval0 hW hcnd hL hSh
  have hval : ∀ (j : Nat) t v, Tryz.f5.params[j]? = some t → args[j]? = some v → Value.okWide Tryz.prog W .any base t v := hval0
  have hW' := hW
  obtain ⟨p, q, hA0, hV, rfl, hfz, hnd⟩ := hW
  have hA : DataW.TrodAll enc Tryz.prog W 0 (fun _ => true) true Tryz.f5.params.toList args.toList ds p := hA0
  rw [Tryz.params5] at hA hval
  obtain ⟨v0, vs0, d0, ds0, p0, q0, hargs0, rfl, rfl, h0, r0⟩ := trodAll_cons hA
  obtain ⟨rfl, rfl, rfl⟩ := trodAll_nil r0
  obtain rfl : args = #[v0] := by cases args; simp_all
  obtain ⟨gg, tt, ccs, ffu, gd, gp, rfl, -, -, -, -, -⟩ := trodVars_one hV
  have hL' := hL
  rw [MakeChecks.laidMetH_plain _ _ _ (by kernel_rfl)] at hL'
  obtain ⟨av0, sv0, hv0, -, -, -⟩ := laid_sentinel (hL'.tail.tail.tail.tail.tail) gV0 gVType0 Tryz.underlying91 gVRow Tryz.underlying182 Tryz.underlying184 rfl rfl Tryz.underlying9 (by kernel_rfl) (by kernel_rfl)
  have hgv0 : W.cell? ⟨0, 0, none⟩ = some (.iface 182 (.pointer (some av0))) := by simpa using World.var?_cell gV0 hv0 0
  obtain ⟨av1, sv1, hv1, -, -, -⟩ := laid_sentinel (hL'.tail.tail.tail.tail) gV1 gVType1 Tryz.underlying91 gVRow Tryz.underlying182 Tryz.underlying184 rfl rfl Tryz.underlying9 (by kernel_rfl) (by kernel_rfl)
  have hgv1 : W.cell? ⟨5, 0, none⟩ = some (.iface 182 (.pointer (some av1))) := by simpa using World.var?_cell gV1 hv1 0
  obtain ⟨av2, sv2, hv2, -, -, -⟩ := laid_sentinel (hL'.tail.tail.tail) gV2 gVType2 Tryz.underlying91 gVRow Tryz.underlying182 Tryz.underlying184 rfl rfl Tryz.underlying9 (by kernel_rfl) (by kernel_rfl)
  have hgv2 : W.cell? ⟨6, 0, none⟩ = some (.iface 182 (.pointer (some av2))) := by simpa using World.var?_cell gV2 hv2 0
  have hmx := Go.Proofs.cell_of_shapedOpen_int (g := 2) (t := 3) (k := .i64) (zero := #[.int .i64 0]) hSh (by decide +kernel) (by kernel_rfl) rfl (by kernel_rfl) (by kernel_rfl) (by kernel_rfl)
  have hgv : Gl W 182 (.pointer (some av0)) := ⟨hgv0, by rw [gM]; exact hmx, by rw [gS]; exact ⟨_, hgv1, Or.inr ⟨_, _, rfl⟩⟩, by rw [gR]; exact ⟨_, hgv2, Or.inr ⟨_, _, rfl⟩⟩⟩
  obtain ⟨a0, len0, cap0, rfl⟩ := okWide_slice Tryz.underlying22 (hval 0 22 v0 rfl rfl)
  have k0 := h0
  have lt0 : ∀ x ∈ p0, x.block < W.heap.size := by obtain ⟨m, hm⟩ := k0; exact DataW.trod_lt m _ _ _ hm
  obtain ⟨fuel0, hf0⟩ := h0
  obtain ⟨zs0, hlen0, rd0, u0, mx0⟩ := bytes_of_trod (by simpa [Value.cells] using hf0)
  subst hlen0
  clear hA0 hval0
  refine (walk W _ _ hgv a0 cap0 zs0 rd0 u0 mx0).mono fun e W' ⟨he, bel⟩ => ?_
  subst he
  exact ⟨_, rfl, _, _, _, [], _, q, hW', trodAll_mk1 (shut_bool Tryz.underlying4 _), (trodAll_cons_mk (Below.trod laidOut (by kernel_rfl) (of_decide_eq_true (by kernel_rfl)) k0 bel lt0) trodAll_mk0), bel.trodVars laidOut (by kernel_rfl) hV, bel.frame _, fun h => by cases h⟩

theorem over : Rows.fnExactParseLayerRow.holds Tryz.pinned (OpenSpec.ofChange Rows.fnExactParseLayerSpec) :=
  OpenClaim.holds_of_wide 5 Tryz.f5 rfl rfl rfl rfl rfl rfl rfl ⟨rfl, rfl, rfl, rfl, rfl⟩ rfl rfl rfl rfl rfl (by kernel_rfl) Tryz.func5 (by kernel_rfl)
    (of_decide_eq_true (by kernel_rfl)) (by unfold Func.isWrapper; first | (rw [if_pos (by decide +kernel)]; kernel_rfl) | (rw [if_neg (by decide +kernel)]; exact ⟨rfl, rfl⟩))
    (fun os started H enc _ => lifted os started H enc)
theorem card : Rows.FnExactParseLayerCardSaid :=
  Claim7.holds_tied_plain_at .later [] [.data, .data, .data, .sentinel, .sentinel, .sentinel] true (true, "b3b4b47d6e552b17dfa9e0699678a80e7a275b7d6142afbd2564cce7a9e9638b") true over (fun _ h => by cases h) (by kernel_rfl) (fun _ h => by cases h) fnExactParseLayer_row_tie rfl ⟨rfl, rfl⟩ (by kernel_rfl) rfl
    (fun f fn hf hfn => by
      obtain rfl : f = 5 := Option.some.inj ((show Tryz.prog.funcNamed "loop.example/g00299/laws.FnExactParseLayer" = some 5 by kernel_rfl).symm.trans hf) |>.symm
      obtain rfl : fn = Tryz.f5 := (Option.some.inj (Tryz.func5.symm.trans hfn)).symm
      exact ⟨by kernel_rfl, fun j t ht => by
        rw [Tryz.params5] at ht
        have hm : t ∈ [22] := by simpa using Array.mem_of_getElem? ht
        have hall : ([22].all fun u => !Tryz.prog.wantsStandIn u) = true := by kernel_rfl
        exact (show Tryz.prog.wantsStandIn t = false by simpa using List.all_eq_true.1 hall t hm)⟩)
    (by kernel_rfl)
end Go.Proofs.YtcknabinmbknaaaGreatDoor.parseLayer
namespace Go.Proofs.YtcknabinmbknaaaGreatDoor
theorem fnExactParseLayerCard_holds : Rows.FnExactParseLayerCardSaid := parseLayer.card
#print axioms fnExactParseLayerCard_holds
end Go.Proofs.YtcknabinmbknaaaGreatDoor
