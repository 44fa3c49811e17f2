/-
  At every log the law FnExactLogFault returns true: LogFault answers as its model does, leaves its arguments alone. No condition.
-/
import Derived.Test.YtpikgmbjgfdcfaaKLogFau2
import Derived.Test.YtpikgmbjgfdcfaaKLogFau3
import Derived.ProofKit
import Derived.OpenShut
import Derived.ShutString
import Derived.ChangeOld
namespace Go.Proofs.Ytpikgmbjgfdcfaa.logFault
open Go.ChangeShapes Go.WideShapes Go.ChangeAt Go.RowKit
set_option linter.unusedVariables false

theorem own : ownKnob Try.prog.godebug = none := by kernel_rfl
theorem laidOut : laidOutB Try.prog = true := by kernel_rfl
set_option maxRecDepth 100000 in
set_option maxHeartbeats 16000000 in
theorem core (w : World) (sa : Option Addr) (sc : Nat) (S : List Int) (la : Option Addr) (lc : Nat) (L : List Int) (hs : Reads .u8 w sa S) (hl : Reads .u8 w la L) (us : U8 S) (ul : U8 L) (hfit : (S.length : Int) + L.length ≤ 1048576) (q : Int)
    (hsp : (∀ (x1 x2 : Nat) (u : World), Below w.heap.size w u → RdL' u (some ⟨x1, 0, none⟩) S.length S (some ⟨x2, 0, none⟩) L.length L → Calls Try.prog 31 #[.agg #[.slice (some ⟨x1, 0, none⟩) S.length S.length, .slice (some ⟨x2, 0, none⟩) L.length L.length]] u (fun e w' => e = .returned (.int .i64 q) ∧ Below u.heap.size u w')))
    (him : (∀ (x1 x2 : Nat) (u : World), Below w.heap.size w u → RdL' u (some ⟨x1, 0, none⟩) S.length S (some ⟨x2, 0, none⟩) L.length L → Calls Try.prog 16 #[.agg #[.slice (some ⟨x1, 0, none⟩) S.length S.length, .slice (some ⟨x2, 0, none⟩) L.length L.length]] u (fun e w' => e = .returned (.int .i64 q) ∧ Below u.heap.size u w'))) :
    Calls Try.prog 6 #[.agg #[.slice sa S.length sc, .slice la L.length lc]] w fun e w' => e = .returned (.bool true) ∧ Below w.heap.size w w' := by
  have B_0 := hide (below_alloc w (.cells #[.slice sa S.length sc, .slice la L.length lc] 50))
  have PA_0 := hide (Two.new w (.slice sa S.length sc) (.slice la L.length lc) 50)
  have hS : S.length ≤ 1048576 := by omega
  have hL : L.length ≤ 1048576 := by omega
  have HS0 := hide (szLog_fits sa S.length sc la L.length lc (w.alloc (.cells #[.slice sa S.length sc, .slice la L.length lc] 50)) hfit)
  have hleft : ¬ (1048576 : Int) - S.length - L.length < 0 := by omega
  have HT := hide (fun (u : World) (hu : Below w.heap.size w u) => toLog_any sa sc S la lc L u (hs.below hu) (hl.below hu) hS hL)
  have HSp := hide hsp
  have HIm := hide him
  have HUS := hide us
  have HUL := hide ul
  clear hs hl us ul hsp him hfit
  go_enter Try.func6, Try.ntmps6
  obtain ⟨pt0, pt1⟩ := PA_0.out
  go_wp2_with fail
  clear pt0 pt1
  have HZW : Hid (w.heap.size + 1 ≤ (w.alloc (.cells #[.slice sa S.length sc, .slice la L.length lc] 50)).heap.size) := hide (by simp)
  generalize w.alloc (.cells #[.slice sa S.length sc, .slice la L.length lc] 50) = W0 at *
  refine HS0.out.mono ?_
  rintro e w1 ⟨rfl, b1⟩
  clear HS0
  have z_1 : W0.heap.size ≤ w1.heap.size := b1.size
  have PA_1 := hide (PA_0.out.below b1)
  have B_1 := hide (below_next B_0.out b1)
  clear PA_0 B_0 b1
  obtain ⟨PAt0, PAt1⟩ := PA_1.out
  go_wp2_with fail
  clear PAt0 PAt1
  refine (HT.out w1 B_1.out).mono ?_
  rintro e w2 ⟨y1, y2, rfl, hgw2, hhw2, hiw2, gw2, bw2⟩
  have z_2 : w1.heap.size ≤ w2.heap.size := bw2.size
  have PA_2 := hide (PA_1.out.below bw2)
  have B_2 := hide (below_next B_1.out bw2)
  have Y_2 := hide gw2
  clear gw2
  clear PA_1 B_1 bw2
  go_wp2_with fail
  refine (HSp.out y1 y2 w2 B_2.out (Y_2.out.rd HUS.out HUL.out hS hL)).mono ?_
  rintro e w3 ⟨rfl, bw3⟩
  have z_3 : w2.heap.size ≤ w3.heap.size := bw3.size
  have PA_3 := hide (PA_2.out.below bw3)
  have Y_3 := hide (Y_2.out.below bw3)
  have B_3 := hide (below_next B_2.out bw3)
  clear PA_2 Y_2 B_2 bw3
  clear Y_3
  obtain ⟨PAt0, PAt1⟩ := PA_3.out
  go_wp2_with fail
  clear PAt0 PAt1
  refine (HT.out w3 B_3.out).mono ?_
  rintro e w4 ⟨x1, x2, rfl, hgw4, hhw4, hiw4, gw4, bw4⟩
  have z_4 : w3.heap.size ≤ w4.heap.size := bw4.size
  have PA_4 := hide (PA_3.out.below bw4)
  have B_4 := hide (below_next B_3.out bw4)
  have X_4 := hide gw4
  clear gw4
  clear PA_3 B_3 bw4
  have ab5 := hide (below_alloc w4 (.cells #[.slice (some ⟨x1, 0, none⟩) S.length S.length, .slice (some ⟨x2, 0, none⟩) L.length L.length] 25))
  have PA_5 := hide (PA_4.out.below ab5.out)
  have X_5 := hide (X_4.out.below ab5.out)
  have XX_5 := hide (Two.new w4 (.slice (some ⟨x1, 0, none⟩) S.length S.length) (.slice (some ⟨x2, 0, none⟩) L.length L.length) 25)
  have B_5 := hide (below_next B_4.out ab5.out)
  have zb_5 : (w4.alloc (.cells #[.slice (some ⟨x1, 0, none⟩) S.length S.length, .slice (some ⟨x2, 0, none⟩) L.length L.length] 25)).heap.size = w4.heap.size + 1 := by simp
  have ZB_5 := hide zb_5
  clear zb_5 PA_4 X_4 B_4 ab5
  obtain ⟨XXt0, XXt1⟩ := XX_5.out
  go_wp2_with fail
  clear XXt0 XXt1
  generalize w4.alloc (.cells #[.slice (some ⟨x1, 0, none⟩) S.length S.length, .slice (some ⟨x2, 0, none⟩) L.length L.length] 25) = V5 at *
  have zz_5 : w4.heap.size + 1 ≤ V5.heap.size := by have := ZB_5.out; omega
  clear ZB_5
  refine (HIm.out x1 x2 V5 B_5.out (X_5.out.rd HUS.out HUL.out hS hL)).mono ?_
  rintro e w6 ⟨rfl, bw6⟩
  have z_6 : V5.heap.size ≤ w6.heap.size := bw6.size
  have PA_6 := hide (PA_5.out.below bw6)
  have X_6 := hide (X_5.out.below bw6)
  have XX_6 := hide (XX_5.out.below bw6)
  have B_6 := hide (below_next B_5.out bw6)
  clear PA_5 X_5 XX_5 B_5 bw6
  go_wp2_with fail
  have KB : Hid (∀ u : World, Below w6.heap.size w6 u → (u.cell? ⟨w4.heap.size, 0, none⟩ = some (.slice (some ⟨x1, 0, none⟩) S.length S.length) ∧ u.cell? ⟨w4.heap.size, 1, none⟩ = some (.slice (some ⟨x2, 0, none⟩) L.length L.length)) ∧ u.cell? ⟨w.heap.size, 0, none⟩ = some (.slice sa S.length sc) ∧ u.cell? ⟨w.heap.size, 1, none⟩ = some (.slice la L.length lc)) := hide (fun u hu => ⟨XX_6.out.below hu, PA_6.out.below hu⟩)
  have HEQ : Hid (∀ (k1 k2 : Nat) (u : World), OL u k1 k2 S L → Below w6.heap.size w6 u → Calls Try.prog 33 #[.agg #[.slice (some ⟨x1, 0, none⟩) S.length S.length, .slice (some ⟨x2, 0, none⟩) L.length L.length], .agg #[.slice (some ⟨k1, 0, none⟩) S.length S.length, .slice (some ⟨k2, 0, none⟩) L.length L.length]] u fun e w' => e = .returned (.bool true) ∧ Below u.heap.size u w') := hide (fun k1 k2 u hr hu => eqLog_same _ _ _ _ S _ _ _ _ L u (X_6.out.below hu).1.reads hr.1.reads (X_6.out.below hu).2.reads hr.2.reads hS hL)
  go_wp2_with fail
  obtain ⟨⟨q0, q1⟩, q3, q4⟩ := KB.out w6 (Below.refl _ _)
  go_region_held3 (fun u => (u.cell? ⟨w4.heap.size, 0, none⟩ = some (.slice (some ⟨x1, 0, none⟩) S.length S.length) ∧ u.cell? ⟨w4.heap.size, 1, none⟩ = some (.slice (some ⟨x2, 0, none⟩) L.length L.length)) ∧ u.cell? ⟨w.heap.size, 0, none⟩ = some (.slice sa S.length sc) ∧ u.cell? ⟨w.heap.size, 1, none⟩ = some (.slice la L.length lc)) (first | exact KB.out _ BB2.out | exact KB.out _ BB1.out | exact KB.out _ (Below.refl _ _).drew | go_keep)
    ((first
      | (go_at_call 32; refine (HT.out _ (below_next B_6.out (Below.refl _ _).drew)).mono ?_; rintro r wr1 ⟨k1, k2, rfl, -, -, -, hr6, hb6⟩; have BB1 := hide ((Below.refl w6.heap.size w6).drew.trans hb6); have R6 := hide hr6; clear hr6 hb6)
      | (go_at_call 33; refine (HEQ.out k1 k2 _ R6.out BB1.out).mono ?_; rintro r wr2 ⟨rfl, hb7⟩; have BB2 := hide (below_next BB1.out hb7); clear hb7)))
  clear q0 q1 q3 q4 KB HEQ R6 BB1
  have bwr2 := BB2.out
  clear BB2
  have z_7 : w6.heap.size ≤ wr2.heap.size := bwr2.size
  have PA_7 := hide (PA_6.out.below bwr2)
  have X_7 := hide (X_6.out.below bwr2)
  have XX_7 := hide (XX_6.out.below bwr2)
  have B_7 := hide (below_next B_6.out bwr2)
  clear PA_6 X_6 XX_6 B_6 bwr2
  go_wp2_with fail
  go_ret
  exact ⟨rfl, B_7.out⟩
set_option maxRecDepth 100000 in
set_option maxHeartbeats 1600000 in
theorem walk (w : World) (sa : Option Addr) (sc : Nat) (S : List Int) (la : Option Addr) (lc : Nat) (L : List Int) (hr : Reads .u8 w sa S ∧ Reads .u8 w la L) (hu : U8 S ∧ U8 L) (ms : S.length ≤ maxLen) (ml : L.length ≤ maxLen) :
    Calls Try.prog 6 #[.agg #[.slice sa S.length sc, .slice la L.length lc]] w fun e w' => e = .returned (.bool true) ∧ Below w.heap.size w w' := by
  unfold maxLen at ms ml
  by_cases hfit : (S.length : Int) + L.length ≤ 1048576
  · exact core w sa sc S la lc L hr.1 hr.2 hu.1 hu.2 hfit (logF S L) (fun x1 x2 u _ h => specLogFault_any _ _ _ _ S L u h) (fun x1 x2 u _ h => implLogFault_any _ _ _ _ S L u h)
  · have HN := hide (szLog_not sa S.length sc la L.length lc (w.alloc (.cells #[.slice sa S.length sc, .slice la L.length lc] 50)) (by omega) (by omega) hfit)
    have B0 := hide (below_alloc w (.cells #[.slice sa S.length sc, .slice la L.length lc] 50))
    clear hr hu hfit
    go_enter Try.func6, Try.ntmps6
    go_wp2_with fail
    refine HN.out.mono ?_
    rintro e w1 ⟨rfl, hb1⟩
    have B1 := hide (below_next B0.out hb1)
    clear hb1
    go_wp2_with fail
    go_ret
    exact ⟨rfl, B1.out⟩
set_option maxRecDepth 100000 in
set_option maxHeartbeats 800000 in
theorem lifted (os : Os) (started : os.Started) (H : Type) (enc : TypeId × Value → H) :
    ReturnsInHanded {} Try.checked os 6 .any (Rows.fnExactLogFaultSpec.pre6 enc Try.prog Try.f6 Rows.fnExactLogFaultRow.domain false) (Rows.fnExactLogFaultSpec.post enc Try.prog Try.f6 false true false false) := by
  refine returnsInHanded_of_change (C := Try.checked) own started (by kernel_rfl) Try.func6
    (ChangeSpec.witness6 (enc := enc) (C := Try.checked) false ⟨#[], #[.agg #[.slice none 0 0, .slice none 0 0]], []⟩ 8 (by kernel_rfl) (by kernel_rfl) (by kernel_rfl) (by kernel_rfl)) ?_
  intro W base args ds gs before hval0 hW hcnd _
  have hval : ∀ (j : Nat) t v, Try.f6.params[j]? = some t → args[j]? = some v → Value.okWide Try.prog W .any base t v := hval0
  have hW' := hW
  obtain ⟨p, q, hA0, hV, rfl, hfz, hnd⟩ := hW
  have hA : DataW.TrodAll enc Try.prog W 0 (fun _ => true) true Try.f6.params.toList args.toList ds p := hA0
  rw [Try.params6] at hA hval
  obtain ⟨v0, vs0, d0, ds0, p0, q0, hargs0, rfl, rfl, h0, r0⟩ := trodAll_cons hA
  obtain ⟨rfl, rfl, rfl⟩ := trodAll_nil r0
  obtain rfl : args = #[v0] := by cases args; simp_all
  obtain ⟨rfl, rfl⟩ := trodVars_none hV
  obtain ⟨cs0, rfl, -⟩ := okWide_struct Try.underlying50 (hval 0 50 v0 rfl rfl)
  have k0 := h0
  have lt0 : ∀ x ∈ p0, x.block < W.heap.size := by obtain ⟨m, hm⟩ := k0; exact DataW.trod_lt m _ _ _ hm
  obtain ⟨fuel0, hf0⟩ := h0
  obtain ⟨sa0, sc0, S0, la0, lc0, L0, hcs0, rd0, u0, ms0, ml0⟩ := log_of_trod (by simpa [Value.cells] using hf0)
  obtain rfl : cs0 = #[.slice sa0 S0.length sc0, .slice la0 L0.length lc0] := by cases cs0; simp_all
  clear hA0 hval0
  refine (walk W sa0 sc0 S0 la0 lc0 L0 rd0 u0 ms0 ml0).mono fun e W' ⟨he, bel⟩ => ?_
  subst he
  exact ⟨_, rfl, _, _, _, [], _, [], hW', trodAll_mk1 (shut_bool Try.underlying4 _), (trodAll_cons_mk (Below.trod laidOut (by kernel_rfl) (of_decide_eq_true (by kernel_rfl)) k0 bel lt0) trodAll_mk0), rfl, bel.frame _, fun h => by cases h⟩

theorem over : Rows.fnExactLogFaultRow.holds Try.pinned (OpenSpec.ofChange Rows.fnExactLogFaultSpec) :=
  OpenClaim.holds_of_wide 6 Try.f6 rfl rfl rfl rfl rfl rfl rfl ⟨rfl, rfl, rfl, rfl, rfl⟩ rfl rfl rfl rfl rfl (by kernel_rfl) Try.func6 (by kernel_rfl)
    (of_decide_eq_true (by kernel_rfl)) (by unfold Func.isWrapper; first | (rw [if_pos (by decide +kernel)]; kernel_rfl) | (rw [if_neg (by decide +kernel)]; exact ⟨rfl, rfl⟩))
    (fun os started H enc _ => lifted os started H enc)
end Go.Proofs.Ytpikgmbjgfdcfaa.logFault
namespace Go.Proofs.Ytpikgmbjgfdcfaa
theorem fnExactLogFault_holds : Rows.FnExactLogFaultSaid := logFault.over
#print axioms fnExactLogFault_holds
end Go.Proofs.Ytpikgmbjgfdcfaa

