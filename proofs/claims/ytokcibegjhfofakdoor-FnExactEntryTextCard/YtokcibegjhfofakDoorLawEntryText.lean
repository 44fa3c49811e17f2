/-
  At every entry the law FnExactEntryText returns true, and the card that ties the listed variables to the program's text: EntryText answers as its model does and leaves its argument alone. No condition but what the row lists.
-/
import Derived.Test.YtokcibegjhfofakDoorEntX
import Derived.Test.YtokcibegjhfofakDoorTxtM
import Derived.Test.YtokcibegjhfofakDoorTxtP
import Derived.Test.YtokcibegjhfofakDoorCards
import Derived.Test.YtokcibegjhfofakDoorTie
import Derived.LaidMore
import Derived.Lay
import Derived.SevenTiedAt
import Derived.Stop.Joined
import Derived.ProofKit
import Derived.OpenShut
import Derived.ShutString
import Derived.ChangeOld
namespace Go.Proofs.YtokcibegjhfofakDoor.entryText
open Go.ChangeShapes Go.WideShapes Go.ChangeAt Go.RowKit
set_option linter.unusedVariables false

theorem own : ownKnob Tryd.prog.godebug = none := by kernel_rfl
theorem laidOut : laidOutB Tryd.prog = true := by kernel_rfl

set_option maxHeartbeats 400000 in
theorem eqTextM_same (c : Int) (s : ByteArray) (w : World) :
    Calls Tryd.prog 9 #[.agg #[.int .i64 c, .string s], .agg #[.int .i64 c, .string s]] w fun e w' => e = .returned (.bool true) ∧ Below w.heap.size w w' := by
  go_enter Tryd.func9, Tryd.ntmps9
  go_wp2
  go_ret
  exact ⟨rfl, ((Below.refl _ _).alloc (Nat.le_refl _) _).alloc (by simp) _⟩

set_option maxRecDepth 100000 in
set_option maxHeartbeats 4000000 in
theorem walk (w : World) (e : En) (a : Option Addr) (c : Nat) (hin : InE w e a) :
    Calls Tryd.prog 3 #[.agg #[.string (str e.path), .int .i64 e.kind, .int .i64 e.size, .slice a e.chunks.length c]] w fun r w' => r = .returned (.bool true) ∧ Below w.heap.size w w' := by
  have hpl := hin.pl
  have hcl := hin.cl
  unfold maxLen at hpl hcl
  have B0 := hide (below_alloc w (.cells #[.string (str e.path), .int .i64 e.kind, .int .i64 e.size, .slice a e.chunks.length c] 24))
  have X0 := hide (Four.new w (.string (str e.path)) (.int .i64 e.kind) (.int .i64 e.size) (.slice a e.chunks.length c) 24)
  have HR := hide hin.rd
  clear hin
  have hsz : ((str e.path).size : Int) = (e.path.length : Int) := by rw [str_size]
  by_cases hfit : (e.path.length : Int) + (e.chunks.length : Int) ≤ 1048576
  · have hn : e.chunks.length ≤ 1048576 := by omega
    have hp : e.path.length ≤ 1048576 := by omega
    have hleft : ¬ ((1048576 : Int) - (str e.path).size - e.chunks.length) < 0 := by omega
    go_enter Tryd.func3, Tryd.ntmps3
    go_wp2_with fail
    generalize w.alloc (.cells #[.string (str e.path), .int .i64 e.kind, .int .i64 e.size, .slice a e.chunks.length c] 24) = W0 at *
    obtain ⟨b0, hb0⟩ : ∃ b0, b0 = w.heap.size := ⟨_, rfl⟩
    rw [← hb0] at X0 ⊢
    clear hb0
    refine (szEntry_fits _ _ _ _ _ _ 1048576 _ (by decide) (by omega)).mono ?_
    rintro r w1 ⟨rfl, b1⟩
    have B1 := hide (below_next B0.out b1)
    have X1 := X0.out.below b1
    clear b1 B0 X0
    obtain ⟨p0, p1, p2, p3⟩ := X1
    go_wp2_with fail
    refine (toEntry_any _ _ _ _ _ e.chunks _ (HR.out.below B1.out) hn).mono ?_
    rintro r w2 ⟨g2, rfl, -, G2, b2⟩
    have R2 := hide (ownInts_reads G2 rfl)
    have B2 := hide (below_next B1.out b2)
    have X2 := hide (Four.below (w := w1) (w' := w2) (b := b0) ⟨p0, p1, p2, p3⟩ b2)
    clear G2 b2 B1 p0 p1 p2 p3
    go_wp2_with fail
    refine (specEntryText_any e _ _ _ R2.out hp hn).mono ?_
    rintro r w3 ⟨rfl, b3⟩
    have A3 := hide (below_next b3 (below_alloc w3 (.cells #[.int .i64 (entFault e), .string (str (entText e))] 27)))
    have T3 := hide (Box.new w3 (.int .i64 (entFault e)) (.string (str (entText e))) 27)
    have B3 := hide (below_next B2.out A3.out)
    have X3 := hide (X2.out.below A3.out)
    have HMI := hide (fun (u : World) (x : Option Addr) (cc : Nat) (hu : Reads .i64 u x e.chunks) => implEntryText_any e x cc u hu hp hn)
    generalize entFault e = F at *
    generalize str (entText e) = S at *
    clear b3 R2 B2 X2 A3
    obtain ⟨p0, p1, p2, p3⟩ := X3.out
    go_wp2_with fail
    generalize w3.alloc (.cells #[.int .i64 F, .string S] 27) = W3 at *
    generalize w3.heap.size = b3 at *
    refine (toEntry_any _ _ _ _ _ e.chunks _ (HR.out.below B3.out) hn).mono ?_
    rintro r w4 ⟨g4, rfl, -, G4, b4⟩
    have R4 := ownInts_reads G4 rfl
    have A4 := hide (below_next b4 (below_alloc w4 (.cells #[.string (str e.path), .int .i64 e.kind, .int .i64 e.size, .slice (some ⟨g4, 0, none⟩) e.chunks.length e.chunks.length] 29)))
    have Y4 := hide (Four.new w4 (.string (str e.path)) (.int .i64 e.kind) (.int .i64 e.size) (.slice (some ⟨g4, 0, none⟩) e.chunks.length e.chunks.length) 29)
    have R5 := hide (R4.below (below_alloc w4 (.cells #[.string (str e.path), .int .i64 e.kind, .int .i64 e.size, .slice (some ⟨g4, 0, none⟩) e.chunks.length e.chunks.length] 29)))
    have X5 := hide (X3.out.below A4.out)
    have T5 := hide (T3.out.below A4.out)
    have B5 := hide (below_next B3.out A4.out)
    clear b4 R4 G4 X3 T3 B3 A4 p0 p1 p2 p3
    go_wp2_with fail
    generalize w4.alloc (.cells #[.string (str e.path), .int .i64 e.kind, .int .i64 e.size, .slice (some ⟨g4, 0, none⟩) e.chunks.length e.chunks.length] 29) = W5 at *
    generalize w4.heap.size = b5 at *
    obtain ⟨q0, q1, q2, q3⟩ := Y4.out
    go_wp2_with fail
    refine (HMI.out _ _ _ R5.out).mono ?_
    rintro r w6 ⟨rfl, b6⟩
    have A6 := hide (below_next b6 (below_alloc w6 (.cells #[.int .i64 F, .string S] 27)))
    have U6 := hide (Box.new w6 (.int .i64 F) (.string S) 27)
    have X6 := hide (X5.out.below A6.out)
    have T6 := hide (T5.out.below A6.out)
    have Y6 := hide (Y4.out.below A6.out)
    have R6 := hide (R5.out.below A6.out)
    have B6 := hide (below_next B5.out A6.out)
    clear b6 X5 T5 Y4 R5 B5 A6 q0 q1 q2 q3
    obtain ⟨⟨t0, t1⟩, t2, t3⟩ := T6.out
    go_wp2_with fail
    generalize w6.alloc (.cells #[.int .i64 F, .string S] 27) = W6 at *
    generalize w6.heap.size = b6 at *
    obtain ⟨⟨u0, u1⟩, u2, u3⟩ := U6.out
    go_wp2_with fail
    refine (eqTextM_same _ _ _).mono ?_
    rintro r w7 ⟨rfl, b7⟩
    have X7 := X6.out.below b7
    have Y7 := Y6.out.below b7
    have R7 := hide (R6.out.below b7)
    have B7 := hide (below_next B6.out b7)
    clear b7 X6 Y6 T6 U6 R6 B6 t0 t1 t2 t3 u0 u1 u2 u3
    have KC : Hid (∀ w' : World, Below w7.heap.size w7 w' → (w'.cell? ⟨b0, 0, none⟩ = some (.string (str e.path)) ∧ w'.cell? ⟨b0, 1, none⟩ = some (.int .i64 e.kind) ∧ w'.cell? ⟨b0, 2, none⟩ = some (.int .i64 e.size) ∧ w'.cell? ⟨b0, 3, none⟩ = some (.slice a e.chunks.length c)) ∧ w'.cell? ⟨b5, 0, none⟩ = some (.string (str e.path)) ∧ w'.cell? ⟨b5, 1, none⟩ = some (.int .i64 e.kind) ∧ w'.cell? ⟨b5, 2, none⟩ = some (.int .i64 e.size) ∧ w'.cell? ⟨b5, 3, none⟩ = some (.slice (some ⟨g4, 0, none⟩) e.chunks.length e.chunks.length)) := hide (fun w' hb => ⟨X7.below hb, Y7.below hb⟩)
    obtain ⟨⟨p0, p1, p2, p3⟩, q0, q1, q2, q3⟩ := KC.out _ (Below.refl _ _)
    clear X7 Y7
    go_wp2_with fail
    go_region_held3 (fun w' => (w'.cell? ⟨b0, 0, none⟩ = some (.string (str e.path)) ∧ w'.cell? ⟨b0, 1, none⟩ = some (.int .i64 e.kind) ∧ w'.cell? ⟨b0, 2, none⟩ = some (.int .i64 e.size) ∧ w'.cell? ⟨b0, 3, none⟩ = some (.slice a e.chunks.length c)) ∧ w'.cell? ⟨b5, 0, none⟩ = some (.string (str e.path)) ∧ w'.cell? ⟨b5, 1, none⟩ = some (.int .i64 e.kind) ∧ w'.cell? ⟨b5, 2, none⟩ = some (.int .i64 e.size) ∧ w'.cell? ⟨b5, 3, none⟩ = some (.slice (some ⟨g4, 0, none⟩) e.chunks.length e.chunks.length)) (first | exact KC.out _ BB8.out | exact KC.out _ BB9.out | go_keep)
      ((first
        | (go_at_call 7; refine (toEntry_any _ _ _ _ _ e.chunks _ (HR.out.below B7.out.drew) hn).mono ?_; rintro r w8 ⟨g8, rfl, -, G8, b8⟩; have R8 := hide (ownInts_reads G8 rfl); have BB8 := hide ((Below.refl w7.heap.size w7).drew.trans b8); clear G8 b8)
        | (go_at_call 10; refine (eqEntry_same _ _ _ _ _ _ _ e.chunks _ (R7.out.below BB8.out) R8.out hn).mono ?_; rintro r w9 ⟨rfl, b9⟩; have BB9 := hide (below_next BB8.out b9); clear b9)))
    go_wp2_with fail
    go_ret
    exact ⟨rfl, below_next B7.out BB9.out⟩
  · go_enter Tryd.func3, Tryd.ntmps3
    go_wp2_with fail
    refine (szEntry_not _ _ _ _ _ _ 1048576 _ (by decide) (by decide) (by omega) (by omega) (by omega)).mono ?_
    rintro r w1 ⟨rfl, b1⟩
    have B1 := hide (below_next B0.out b1)
    clear b1
    go_wp2_with fail
    go_ret
    exact ⟨rfl, B1.out⟩
set_option maxRecDepth 100000 in
set_option maxHeartbeats 800000 in
theorem lifted (os : Os) (started : os.Started) (H : Type) (enc : TypeId × Value → H) :
    ReturnsInHanded {} Tryd.checked os 3 .any (fun w args => (Rows.fnExactEntryTextSpec.pre enc Tryd.prog Tryd.f3 Rows.fnExactEntryTextRow.domain false w args ∧ laidMetH Tryd.prog Rows.fnExactEntryTextRow.laid w) ∧ sizedMet enc Tryd.prog Tryd.f3 (OpenSpec.ofChange Rows.fnExactEntryTextSpec) false w args)
      (Rows.fnExactEntryTextSpec.post enc Tryd.prog Tryd.f3 false true false false) := by
  refine returnsInHanded_of_change_and (C := Tryd.checked) (X := fun w _ => laidMetH Tryd.prog Rows.fnExactEntryTextRow.laid w) (fun _ _ _ hh h => h.of_heap hh) own started (by kernel_rfl) Tryd.func3
    (ChangeSpec.witness_shaped (enc := enc) (C := Tryd.checked) (os := os) (X := fun w _ => laidMetH Tryd.prog Rows.fnExactEntryTextRow.laid w) false (World.laidAll Tryd.prog os Rows.fnExactEntryTextRow.laid) #[.agg #[.string ⟨#[]⟩, .int .i64 0, .int .i64 0, .slice none 0 0]] 8 (World.laidAll_os _ _ _)
      (World.shaped_of_ZipB (by kernel_rfl) (by kernel_rfl)) (by kernel_rfl) (by kernel_rfl) (by kernel_rfl)
      (by rw [MakeChecks.laidMetH_plain _ _ _ (by kernel_rfl)]; exact laidMet_laidAll _ (by kernel_rfl) (by kernel_rfl))) ?_
  intro W base args ds gs before hval0 hW hcnd _ hL _
  have hval : ∀ (j : Nat) t v, Tryd.f3.params[j]? = some t → args[j]? = some v → Value.okWide Tryd.prog W .any base t v := hval0
  have hW' := hW
  obtain ⟨p, q, hA0, hV, rfl, hfz, hnd⟩ := hW
  have hA : DataW.TrodAll enc Tryd.prog W 0 (fun _ => true) true Tryd.f3.params.toList args.toList ds p := hA0
  rw [Tryd.params3] at hA hval
  obtain ⟨v0, vs0, d0, ds0, p0, q0, hargs0, rfl, rfl, h0, r0⟩ := trodAll_cons hA
  obtain ⟨rfl, rfl, rfl⟩ := trodAll_nil r0
  obtain rfl : args = #[v0] := by cases args; simp_all
  obtain ⟨rfl, rfl⟩ := trodVars_none hV
  obtain ⟨cs0, rfl, -⟩ := okWide_struct Tryd.underlying24 (hval 0 24 v0 rfl rfl)
  have k0 := h0
  have lt0 : ∀ x ∈ p0, x.block < W.heap.size := by obtain ⟨m, hm⟩ := k0; exact DataW.trod_lt m _ _ _ hm
  obtain ⟨fuel0, hf0⟩ := h0
  obtain ⟨e0, a0, cap0, hcs0, in0⟩ := entry_of_trod (by simpa [Value.cells] using hf0)
  obtain rfl : cs0 = #[.string (str e0.path), .int .i64 e0.kind, .int .i64 e0.size, .slice a0 e0.chunks.length cap0] := by cases cs0; simp_all
  clear hA0 hval0
  refine (walk W e0 a0 cap0 in0).mono fun e W' ⟨he, bel⟩ => ?_
  subst he
  exact ⟨_, rfl, _, _, _, [], _, [], hW', trodAll_mk1 (shut_bool Tryd.underlying4 _), (trodAll_cons_mk (Below.trod laidOut (by kernel_rfl) (of_decide_eq_true (by kernel_rfl)) k0 bel lt0) trodAll_mk0), rfl, bel.frame _, fun h => by cases h⟩

theorem over : Rows.fnExactEntryTextRow.holds Tryd.pinned (OpenSpec.ofChange Rows.fnExactEntryTextSpec) :=
  OpenClaim.holds_of_wide 3 Tryd.f3 rfl rfl rfl rfl rfl rfl rfl ⟨rfl, rfl, rfl, rfl, rfl⟩ rfl rfl rfl rfl rfl (by kernel_rfl) Tryd.func3 (by kernel_rfl)
    (of_decide_eq_true (by kernel_rfl)) (by unfold Func.isWrapper; first | (rw [if_pos (by decide +kernel)]; kernel_rfl) | (rw [if_neg (by decide +kernel)]; exact ⟨rfl, rfl⟩))
    (fun os started H enc _ => lifted os started H enc)
theorem card : Rows.FnExactEntryTextCardSaid :=
  Claim7.holds_tied_plain_at .later [] [.data, .data, .data] true (true, "9469f2b427c6c51865b2eb2afff7ade0de90df397e873c846daeb9e958655b48") false over (fun _ h => by cases h) (by kernel_rfl) (fun _ h => by cases h) fnExactEntryText_row_tie rfl ⟨rfl, rfl⟩ (by kernel_rfl) rfl
    (fun f fn hf hfn => by
      obtain rfl : f = 3 := Option.some.inj ((show Tryd.prog.funcNamed "loop.example/g00299/laws.FnExactEntryText" = some 3 by kernel_rfl).symm.trans hf) |>.symm
      obtain rfl : fn = Tryd.f3 := (Option.some.inj (Tryd.func3.symm.trans hfn)).symm
      exact ⟨by kernel_rfl, fun j t ht => by
        rw [Tryd.params3] at ht
        have hm : t ∈ [24] := by simpa using Array.mem_of_getElem? ht
        have hall : ([24].all fun u => !Tryd.prog.wantsStandIn u) = true := by kernel_rfl
        exact (show Tryd.prog.wantsStandIn t = false by simpa using List.all_eq_true.1 hall t hm)⟩)
    (by kernel_rfl)
end Go.Proofs.YtokcibegjhfofakDoor.entryText
namespace Go.Proofs.YtokcibegjhfofakDoor
theorem fnExactEntryTextCard_holds : Rows.FnExactEntryTextCardSaid := entryText.card
#print axioms fnExactEntryTextCard_holds
end Go.Proofs.YtokcibegjhfofakDoor
