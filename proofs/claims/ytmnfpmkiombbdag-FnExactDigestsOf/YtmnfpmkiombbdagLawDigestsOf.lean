/-
  At every byte slice the law FnExactDigestsOf returns true: DigestsOf answers as its model does, leaves its argument alone, and its answer owns its memory. No condition.
-/
import Derived.Test.YtmnfpmkiombbdagDigests
import Derived.ProofKit
import Derived.OpenShut
import Derived.ShutString
import Derived.ChangeOld
namespace Go.Proofs.Ytmnfpmkiombbdag.digestsOf
open Go.ChangeShapes Go.WideShapes Go.ChangeAt Go.RowKit
set_option linter.unusedVariables false

theorem own : ownKnob Try.prog.godebug = none := by kernel_rfl
theorem laidOut : laidOutB Try.prog = true := by kernel_rfl

set_option maxHeartbeats 4000000 in
theorem core (a0 : Option Addr) (cap0 : Nat) (zs : List Int) (w : World) (h : Reads .u8 w a0 zs) (hl : zs.length ≤ 1048576) (q : Int) (ds : List Int) (hn : ds.length ≤ 1048576)
    (hs : ∀ a cap w, Reads .u8 w a zs → zs.length ≤ cap → Calls Try.prog 18 #[.slice a zs.length cap] w fun e w' => ∃ a' c', e = .returned (.agg #[.int .i64 q, .slice a' ds.length c']) ∧ w'.ownsRow w.heap.size 2 1 (.slice a' ds.length c') ds.length (ds.map (Value.int .i64)) ∧ Below w.heap.size w w')
    (hi : ∀ a cap w, Reads .u8 w a zs → zs.length ≤ cap → Calls Try.prog 19 #[.slice a zs.length cap] w fun e w' => ∃ a' c', e = .returned (.agg #[.int .i64 q, .slice a' ds.length c']) ∧ w'.ownsRow w.heap.size 2 1 (.slice a' ds.length c') ds.length (ds.map (Value.int .i64)) ∧ Below w.heap.size w w') :
    Calls Try.prog 5 #[.slice a0 zs.length cap0] w fun e w' => e = .returned (.bool true) ∧ Below w.heap.size w w' := by
  have hb : ¬ (1048576 : Int) < (zs.length : Int) := by omega
  have HS := hide hs
  have HI := hide hi
  have HR := hide h
  clear hs hi h
  go_enter Try.func5, Try.ntmps5
  go_wp2_with fail
  refine (toByteS_at a0 cap0 zs _ HR.out hl).mono ?_
  rintro e w1 ⟨g1, rfl, -, -, o1, b1⟩
  have O1 := hide o1
  have B1 := hide b1
  have n01 := b1.size
  clear o1 b1
  go_wp2_with fail
  refine (HS.out _ _ _ O1.out.reads (Nat.le_refl _)).mono ?_
  rintro e w2 ⟨a2, c2, rfl, d2, b2⟩
  have D2 := hide (G1.mk d2 rfl)
  have B2 := hide (below_next B1.out b2)
  have n12 := b2.size
  clear d2 b2 O1 B1
  go_wp2_with fail
  refine (toByteS_at a0 cap0 zs _ (HR.out.below (below_next B2.out (below_alloc _ _))) hl).mono ?_
  rintro e w3 ⟨g, rfl, hg0, hg1, o3, b3⟩
  have n2g : w2.heap.size < g := by simp at hg0; omega
  have T3 := hide ((Two.new w2 (.int .i64 q) (.slice a2 ds.length c2) 36).below b3)
  have D3 := hide ((D2.out.below (below_alloc _ _)).below b3)
  have O3 := hide o3
  have B3 := hide (below_next (below_next B2.out (below_alloc _ _)) b3)
  clear o3 b3 hg0 D2 B2
  go_wp2_with fail
  refine (HI.out _ _ _ O3.out.reads (Nat.le_refl _)).mono ?_
  rintro e w4 ⟨a4, c4, rfl, g4, b4⟩
  have n34 := b4.size
  have n24 : w2.heap.size < w4.heap.size := by omega
  have G4 := hide (G1.mk g4 rfl)
  have T4 := hide (T3.out.below b4)
  have D4 := hide (D3.out.below b4)
  have O4 := hide (O3.out.below b4)
  have B4 := hide (below_next B3.out b4)
  clear g4 b4 T3 D3 O3 B3
  obtain ⟨t0, t1⟩ := T4.out
  go_wp2_with fail
  clear t0 t1
  refine (eqIntsResult_same q a4 a2 c4 c2 ds _ (G4.out.below (below_alloc _ _)).own.reads (D4.out.below (below_alloc _ _)).own.reads hn).mono ?_
  rintro e w5 ⟨rfl, b5⟩
  have n45 : w4.heap.size < w5.heap.size := by have := b5.size; simp at this; omega
  have U5 := hide ((Two.new w4 (.int .i64 q) (.slice a4 ds.length c4) 36).below b5)
  have G5 := hide ((G4.out.below (below_alloc _ _)).below b5)
  have T5 := hide ((T4.out.below (below_alloc _ _)).below b5)
  have D5 := hide ((D4.out.below (below_alloc _ _)).below b5)
  have O5 := hide ((O4.out.below (below_alloc _ _)).below b5)
  have B5 := hide (below_next (below_next B4.out (below_alloc _ _)) b5)
  clear b5 G4 T4 D4 O4 B4
  go_wp2_with fail
  refine (toByteS_at a0 cap0 zs _ (HR.out.below B5.out) hl).mono ?_
  rintro e w6 ⟨g6, rfl, -, -, o6, b6⟩
  have X6 := hide o6
  clear o6
  have U6 := hide (U5.out.below b6)
  have G6 := hide (G5.out.below b6)
  have T6 := hide (T5.out.below b6)
  have D6 := hide (D5.out.below b6)
  have O6 := hide (O5.out.below b6)
  have B6 := hide (below_next B5.out b6)
  have n56 := b6.size
  clear b6 U5 G5 T5 D5 O5 B5
  go_wp2_with fail
  refine (eqByteS_b _ _ _ _ zs _ O6.out.reads X6.out.reads hl).mono ?_
  rintro e w7 ⟨rfl, b7⟩
  clear X6
  have U7 := hide (U6.out.below b7)
  have G7 := hide (G6.out.below b7)
  have T7 := hide (T6.out.below b7)
  have D7 := hide (D6.out.below b7)
  have O7 := hide (O6.out.below b7)
  have B7 := hide (below_next B6.out b7)
  have n67 := b7.size
  clear b7 U6 G6 T6 D6 O6 B6
  go_wp2_with fail
  refine (markByteS_any _ _ zs 1 _ O7.out (by decide) (by decide) (by omega)).mono ?_
  rintro e w8 ⟨rfl, -, k8, -⟩
  have hS8 : ∀ b, blkOf (some ⟨g, 0, none⟩) b → b = g := fun b hb => by simpa [blkOf, eq_comm] using hb
  have n78 := k8.size
  have U8 := hide (U7.out.kept k8 (fun hS => by have := hS8 _ hS; omega))
  have G8 := hide (G7.out.kept k8 (fun b h1 h2 hS => by have := hS8 _ hS; omega))
  have T8 := hide (T7.out.kept k8 (fun hS => by have := hS8 _ hS; omega))
  have D8 := hide (D7.out.kept k8 (fun b h1 h2 hS => by have := hS8 _ hS; omega))
  have B8 := hide (B7.out.trans (k8.below B7.out.size (fun k hk hS => by have := hS8 _ hS; omega)))
  clear k8 hS8 U7 G7 T7 D7 O7 B7
  have hk8 : ¬ (1 + (zs.length : Int)) < 0 := by omega
  obtain ⟨t0, t1⟩ := T8.out
  obtain ⟨u0, u1⟩ := U8.out
  go_wp2_with fail
  clear t0 t1 u0 u1
  refine (eqIntsResult_same q a4 a2 c4 c2 ds _ G8.out.own.reads D8.out.own.reads hn).mono ?_
  rintro e w9 ⟨rfl, b9⟩
  have U9 := hide (U8.out.below b9)
  have G9 := hide (G8.out.below b9)
  have T9 := hide (T8.out.below b9)
  have D9 := hide (D8.out.below b9)
  have B9 := hide (below_next B8.out b9)
  have n8x9 := b9.size
  clear b9 U8 G8 T8 D8 B8
  obtain ⟨u0, u1⟩ := U9.out
  go_wp2_with fail
  clear u0 u1
  refine (markIntsResult_any q _ _ a4 c4 ds 1 _ G9.out (by decide) (by decide) hn).mono ?_
  rintro e w10 ⟨rfl, g10, k10⟩
  have n9x10 := k10.size
  have G10 : Hid (G1 w3.heap.size w4.heap.size w10 (.slice a4 (marks64 1 ds.length).length c4) (marks64 1 ds.length)) := by rw [marks64_length]; exact g10
  have U10 := hide (U9.out.kept k10 (fun hS => by omega))
  have T10 := hide (T9.out.kept k10 (fun hS => by omega))
  have D10 := hide (D9.out.kept k10 (fun b h1 h2 hS => by omega))
  have B10 := hide (B9.out.trans (k10.below B9.out.size (fun k hk hS => by omega)))
  clear g10 k10 U9 G9 T9 D9 B9
  obtain ⟨u0, u1⟩ := U10.out
  have hm1 : ¬ (1 + (ds.length : Int)) < 0 := by omega
  go_wp2_with fail
  clear u0 u1
  refine (heldIntsResult_any q a4 c4 ds.length 1 _ G10.out.own.reads (by decide) (by decide) hn).mono ?_
  rintro e w11 ⟨rfl, b11⟩
  have U11 := hide (U10.out.below b11)
  have G11 := hide (G10.out.below b11)
  have T11 := hide (T10.out.below b11)
  have D11 := hide (D10.out.below b11)
  have B11 := hide (below_next B10.out b11)
  have n10x11 := b11.size
  clear b11 U10 G10 T10 D10 B10
  go_wp2_with fail
  refine (toByteS_at a0 cap0 zs _ (HR.out.below B11.out) hl).mono ?_
  rintro e w12 ⟨g12, rfl, -, -, o12, b12⟩
  have X12 := hide o12
  clear o12
  have U12 := hide (U11.out.below b12)
  have G12 := hide (G11.out.below b12)
  have T12 := hide (T11.out.below b12)
  have D12 := hide (D11.out.below b12)
  have B12 := hide (below_next B11.out b12)
  have n11x12 := b12.size
  clear b12 U11 G11 T11 D11 B11
  go_wp2_with fail
  refine (HI.out _ _ _ X12.out.reads (Nat.le_refl _)).mono ?_
  rintro e w13 ⟨a13, c13, rfl, g13, b13⟩
  have H13 := hide (G1.mk g13 rfl)
  clear g13 X12
  have U13 := hide (U12.out.below b13)
  have G13 := hide (G12.out.below b13)
  have T13 := hide (T12.out.below b13)
  have D13 := hide (D12.out.below b13)
  have B13 := hide (below_next B12.out b13)
  have n12x13 := b13.size
  clear b13 U12 G12 T12 D12 B12
  have n2x13 : w2.heap.size < w13.heap.size := by omega
  have n4x13 : w4.heap.size < w13.heap.size := by omega
  obtain ⟨t0, t1⟩ := T13.out
  go_wp2_with fail
  clear t0 t1
  refine (eqIntsResult_same q a13 a2 c13 c2 ds _ (H13.out.below (below_alloc _ _)).own.reads (D13.out.below (below_alloc _ _)).own.reads hn).mono ?_
  rintro e w14 ⟨rfl, b14⟩
  have U14 := hide ((U13.out.below (below_alloc _ _)).below b14)
  have G14 := hide ((G13.out.below (below_alloc _ _)).below b14)
  have B14 := hide (below_next (below_next B13.out (below_alloc _ _)) b14)
  clear b14 U13 G13 T13 D13 B13 H13
  obtain ⟨u0, u1⟩ := U14.out
  go_wp2_with fail
  clear u0 u1
  refine (heldIntsResult_any q a4 c4 ds.length 1 _ G14.out.own.reads (by decide) (by decide) hn).mono ?_
  rintro e w15 ⟨rfl, b15⟩
  have B15 := hide (below_next B14.out b15)
  clear b15 B14 U14 G14
  go_wp2_with fail
  go_ret
  exact ⟨rfl, B15.out⟩

theorem walk (a0 : Option Addr) (cap0 : Nat) (zs : List Int) (w : World) (h : Reads .u8 w a0 zs) (hu : U8 zs) (hmax : zs.length ≤ maxLen) :
    Calls Try.prog 5 #[.slice a0 zs.length cap0] w fun e w' => e = .returned (.bool true) ∧ Below w.heap.size w w' := by
  unfold maxLen at hmax
  by_cases hbig : 1048576 < zs.length
  · have hb : (1048576 : Int) < (zs.length : Int) := by omega
    go_enter Try.func5, Try.ntmps5
    go_wp2
    go_ret
    exact ⟨rfl, Below.refl _ _⟩
  · by_cases h24 : zs.length ≤ 24
    · have hdl : (cut zs).length = (digs zs (cut zs).length).length := (digs_length _ _).symm
      refine core a0 cap0 zs w h (by omega) 0 (digs zs (cut zs).length) (by rw [digs_length, cut_length]; omega) ?_ ?_
      · intro a cap w hr hc
        refine (specDigestsOf_ok a cap zs w hr hu hc h24).mono ?_
        rintro e w' ⟨v, rfl, hG, hB⟩
        obtain ⟨a', c', rfl⟩ := ownsRow_shape hG
        exact ⟨a', c', by rw [digs_length], by rw [digs_length]; exact hG, hB⟩
      · intro a cap w hr hc
        refine (implDigestsOf_ok a cap zs w hr hu hc h24).mono ?_
        rintro e w' ⟨v, rfl, hG, hB⟩
        obtain ⟨a', c', rfl⟩ := ownsRow_shape hG
        exact ⟨a', c', by rw [digs_length], by rw [digs_length]; exact hG, hB⟩
    · refine core a0 cap0 zs w h (by omega) 2 [] (by decide) ?_ ?_
      · intro a cap w hr hc
        refine (specDigestsOf_no a cap zs w (by omega) (by omega)).mono ?_
        rintro e w' ⟨rfl, hB⟩
        exact ⟨none, 0, rfl, World.ownsRow_nil _ _ _ _, hB⟩
      · intro a cap w hr hc
        refine (implDigestsOf_no a cap zs w (by omega) (by omega)).mono ?_
        rintro e w' ⟨rfl, hB⟩
        exact ⟨none, 0, rfl, World.ownsRow_nil _ _ _ _, hB⟩

set_option maxRecDepth 100000 in
theorem lifted (os : Os) (started : os.Started) (H : Type) (enc : TypeId × Value → H) :
    ReturnsInHanded {} Try.checked os 5 .any (Rows.fnExactDigestsOfSpec.pre6 enc Try.prog Try.f5 Rows.fnExactDigestsOfRow.domain false) (Rows.fnExactDigestsOfSpec.post enc Try.prog Try.f5 false true false false) := by
  refine returnsInHanded_of_change (C := Try.checked) own started (by kernel_rfl) Try.func5
    (ChangeSpec.witness6 (enc := enc) (C := Try.checked) false ⟨#[], #[.slice none 0 0], []⟩ 8 (by kernel_rfl) (by kernel_rfl) (by kernel_rfl) (by kernel_rfl)) ?_
  intro W base args ds gs before hval0 hW hcnd _
  have hval : ∀ (j : Nat) t v, Try.f5.params[j]? = some t → args[j]? = some v → Value.okWide Try.prog W .any base t v := hval0
  have hW' := hW
  obtain ⟨p, q, hA0, hV, rfl, hfz, hnd⟩ := hW
  have hA : DataW.TrodAll enc Try.prog W 0 (fun _ => true) true Try.f5.params.toList args.toList ds p := hA0
  rw [Try.params5] at hA hval
  obtain ⟨v0, vs0, d0, ds0, p0, q0, hargs, rfl, rfl, h0, r0⟩ := trodAll_cons hA
  obtain ⟨rfl, rfl, rfl⟩ := trodAll_nil r0
  obtain rfl : args = #[v0] := by cases args; simp_all
  obtain ⟨rfl, rfl⟩ := trodVars_none hV
  obtain ⟨a0, len0, cap0, rfl⟩ := okWide_slice Try.underlying23 (hval 0 23 v0 rfl rfl)
  have k0 := h0
  have lt0 : ∀ x ∈ p0, x.block < W.heap.size := by obtain ⟨m, hm⟩ := k0; exact DataW.trod_lt m _ _ _ hm
  obtain ⟨zs, hlen, hread, hu, hmax⟩ : ∃ zs : List Int, zs.length = len0 ∧ Reads .u8 W a0 zs ∧ U8 zs ∧ zs.length ≤ maxLen := by
    obtain ⟨fuel, hf⟩ := h0
    rcases open_ints Try.underlying23 Try.underlying5 (by kernel_rfl) hf with ⟨hcs, _⟩ | ⟨x, l, c, zs, hcs, _, hl, hm, hz, _, hcell, hwz⟩
    · simp [Value.cells] at hcs
      obtain ⟨rfl, rfl, rfl⟩ := hcs
      exact ⟨[], rfl, fun h => absurd rfl h, fun z hz => by simp at hz, Nat.zero_le _⟩
    · simp [Value.cells] at hcs
      obtain ⟨rfl, rfl, rfl⟩ := hcs
      exact reads_of_row (by simpa using hz) hl hm hcell hwz
  subst hlen
  clear hA0 hval0
  refine (walk a0 cap0 zs W hread hu hmax).mono fun e W' ⟨he, bel⟩ => ?_
  subst he
  exact ⟨_, rfl, _, _, _, [], _, [], hW', trodAll_mk1 (shut_bool Try.underlying4 _), (trodAll_cons_mk (Below.trod laidOut (by kernel_rfl) (of_decide_eq_true (by kernel_rfl)) k0 bel lt0) trodAll_mk0), rfl, bel.frame _, fun h => by cases h⟩

theorem over : Rows.fnExactDigestsOfRow.holds Try.pinned (OpenSpec.ofChange Rows.fnExactDigestsOfSpec) :=
  OpenClaim.holds_of_wide 5 Try.f5 rfl rfl rfl rfl rfl rfl rfl ⟨rfl, rfl, rfl, rfl, rfl⟩ rfl rfl rfl rfl rfl (by kernel_rfl) Try.func5 (by kernel_rfl)
    (of_decide_eq_true (by kernel_rfl)) (by unfold Func.isWrapper; first | (rw [if_pos (by decide +kernel)]; kernel_rfl) | (rw [if_neg (by decide +kernel)]; exact ⟨rfl, rfl⟩))
    (fun os started H enc _ => lifted os started H enc)

end Go.Proofs.Ytmnfpmkiombbdag.digestsOf
namespace Go.Proofs.Ytmnfpmkiombbdag
theorem fnExactDigestsOf_holds : Rows.FnExactDigestsOfSaid := digestsOf.over
#print axioms fnExactDigestsOf_holds
end Go.Proofs.Ytmnfpmkiombbdag
