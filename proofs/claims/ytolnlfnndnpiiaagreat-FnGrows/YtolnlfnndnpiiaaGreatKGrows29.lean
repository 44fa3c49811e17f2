/-
  At every byte slice the law FnGrows returns true: a snapshot that is prepared has the tree of its parent, and what is held does not go. No condition.
-/
import Derived.Test.YtolnlfnndnpiiaaGreatKGrows28
import Derived.ProofKit
import Derived.Deep.CutRange
import Derived.OpenShut
import Derived.ShutString
import Derived.ChangeOld
import Derived.Deep.DrawnRows
import Derived.Deep.RegionHeld3
namespace Go.Proofs.YtolnlfnndnpiiaaGreat.fnGrows
open Go.ChangeShapes Go.WideShapes Go.ChangeAt Go.RowKit Go.Maps
set_option linter.unusedVariables false
attribute [local go_sem ↓] Go.wp_at_zero Go.wp_at_succ

theorem own : ownKnob Tryz.prog.godebug = none := by kernel_rfl
theorem laidOut : laidOutB Tryz.prog = true := by kernel_rfl

theorem lwBig_no (a : Option Addr) (cap : Nat) (n : Nat) (w : World) (h : n ≤ 1048576) :
    Calls Tryz.prog 5 #[.slice a n cap] w fun e w' => e = .returned (.bool false) ∧ w' = w := by
  have hb : ¬ (1048576 : Int) < (n : Int) := by omega
  go_enter Tryz.func5, Tryz.ntmps5
  go_wp2
  go_ret
  exact ⟨ret_bool (by simp <;> omega), rfl⟩
theorem lwBig_yes (a : Option Addr) (cap : Nat) (n : Nat) (w : World) (h : 1048576 < n) (h2 : n ≤ maxLen) :
    Calls Tryz.prog 5 #[.slice a n cap] w fun e w' => e = .returned (.bool true) ∧ w' = w := by
  have hb : (1048576 : Int) < (n : Int) := by omega
  unfold maxLen at h2
  go_enter Tryz.func5, Tryz.ntmps5
  go_wp2
  go_ret
  exact ⟨ret_bool (by simp <;> omega), rfl⟩

theorem tk {P : Program} {ops : Array Oper} {Q : Exit → Act → World → Prop} {md : Region.Mode} {S : World → Prop} (i d : Nat) (v : Value) {op : Op} {ty : TypeId} {pos : String} {af : Array Edge} {gd : Option (Nat × Bool)} {fuel : Nat} {listed : Array Bool} {a : Act} {w : World} (hS : S w) (hi : ops[i]? = some { dst := some d, op := op, type := ty, pos := pos, after := af, guard := gd })
    (hs : Region.noSelect ops = true) (hf : Region.free md ops listed i = true) (hr : (Region.ready md ops listed).contains i = true) (hQ : ∀ c a w, Q (.panic c) (a.put (some d) v) w → Q (.panic c) a w) (hy : YieldsIf P ops S { dst := some d, op := op, type := ty, pos := pos, after := af, guard := gd } v a)
    (h : wpAnyH P md ops Q S fuel (listed.setIfInBounds i true) (a.put (some d) v) w) : wpAnyH P md ops Q S (fuel + 1) listed a w := wpAnyH_take hi hs hf hr hQ hy hS h
theorem rdE_qu {w : World} {b : Nat} {e : En} (h : Four w b (.string (str e.path)) (.int .i64 e.kind) (.int .i64 e.size) (.slice none 0 0)) (hc : e.chunks = []) : RdE w (some ⟨b, 0, none⟩) [e] := by
  intro _
  refine ⟨b, 0, fun _ => none, fun _ => 0, rfl, h.lt, fun i x hx => ?_⟩
  cases i with
  | zero =>
    simp only [List.getElem?_cons_zero, Option.some.injEq] at hx
    subst hx
    obtain ⟨h0, h1, h2, h3⟩ := h
    rw [hc]
    exact ⟨h0, h1, h2, h3, fun hz => absurd rfl hz⟩
  | succ j => simp at hx
set_option maxRecDepth 100000 in
set_option maxHeartbeats 12800000 in
theorem walk (a0 : Option Addr) (cap0 : Nat) (zs : List Int) (w : World) (h : Reads .u8 w a0 zs) (hu : U8 zs) (hmax : zs.length ≤ maxLen) :
    Calls Tryz.prog 4 #[.slice a0 zs.length cap0] w fun e w' => e = .returned (.bool true) ∧ Below w.heap.size w w' := by
  have HR := hide h
  have HU := hide hu
  clear h hu
  by_cases hbig : 1048576 < zs.length
  · go_enter Tryz.func4, Tryz.ntmps4
    go_wp2_with fail
    refine (lwBig_yes _ _ _ _ hbig hmax).mono ?_
    rintro e w ⟨rfl, rfl⟩
    go_wp2_with fail
    go_ret
    exact ⟨rfl, Below.refl _ _⟩
  have hf28 : ∀ (u : World) (q r : Int) (v : Value), (Instr.field 28 (.agg #[.int .i64 q, .int .i64 r, v]) 1).run Tryz.prog u = .ok (.int .i64 r) u := fun _ _ _ _ => by kernel_rfl
  have hf40 : ∀ (u : World) (q r : Int) (v : Value), (Instr.field 40 (.agg #[.int .i64 q, .int .i64 r, v]) 2).run Tryz.prog u = .ok v u := fun _ _ _ _ => by kernel_rfl
  go_enter Tryz.func4, Tryz.ntmps4
  go_wp2_with fail
  refine (lwBig_no _ _ _ _ (by omega)).mono ?_
  rintro e w ⟨rfl, rfl⟩
  go_wp2_with fail
  refine (drawPrepareSnap_e a0 cap0 zs _ HR.out HU.out (by omega)).mono ?_
  rintro e w1 ⟨l, av, cv, nm, pa, rfl, hgd, hsm, hten, hG, hnl, hpl, hb1⟩
  have RD := hide hG.rd
  have PC := hide hG.plc
  have SM := hide hsm
  have GD := hide hgd
  have B1 := hide hb1
  clear hgd hsm hG hb1 HR HU hbig hmax
  by_cases hz : snF l = 0
  · have hR := snF_zero.1 hz
    have HRi := hide hR
    clear hz
    have HP := hide (implPrepareSnap_ok av cv l.length l nm pa w1 RD.out rfl hR SM.out (by omega) (by omega))
    have HQ := hide (fun u (hu : RdS u av l) => specPrepareSnap_ok av cv l.length l nm pa u hu PC.out rfl hR SM.out (by omega) (by omega))
    rw [grow_same hR] at HQ
    by_cases hg : growR l ⟨nm, pa, 1, false, []⟩ = 0
    · have GA := growsAll_of hR hg
      clear HQ PC
      rw [hg, aft_zero] at HP
      have HL0 := hide (show (putN l ⟨nm, pa, 1, false, []⟩).length ≤ 10 from GA.right.len)
      have HSF := hide (snF_zero.2 GA.right)
      have HLR := hide GA.right
      have HLA := hide GA.at_
      have HFA := hide GA.fit
      have HN1 := hide GA.none
      have HON := hide GA.on
      have HOF := hide GA.off
      have HLN := hide GA.len
      have HE := hide (And.intro GA.leaR (And.intro GA.leaA GA.leaO))
      have HAG := hide (And.intro GA.addG (And.intro GA.addR GA.addA))
      clear GA hg hR
      generalize putN l ⟨nm, pa, 1, false, []⟩ = L at *
      obtain ⟨CH, hCH⟩ : ∃ CH, CH = chainS L ⟨nm, pa, 1, false, []⟩ := ⟨_, rfl⟩
      rw [← hCH] at HFA HN1 HON
      have HCH := hide hCH
      clear hCH
      go_wp2_with fail
      refine HP.out.mono ?_
      rintro e w2 ⟨a2, c2, rfl, hH2, hb2⟩
      have A2 := hide (below_next hb2 (below_alloc w2 (.cells #[.int .i64 0, .int .i64 0, .slice a2 L.length c2] 28)))
      have X2 := hide (Box3.new w2 (.int .i64 0) (.int .i64 0) (.slice a2 L.length c2) 28)
      have R2 := hide (hH2.rd.below (below_alloc w2 (.cells #[.int .i64 0, .int .i64 0, .slice a2 L.length c2] 28)))
      have RDn := hide (RD.out.below A2.out)
      have B2 := hide (below_next B1.out A2.out)
      clear hH2 hb2 HP RD A2 B1
      have RD := RDn
      clear RDn
      obtain ⟨⟨t0, t1, t2⟩, t3, t4, t5⟩ := X2.out
      go_wp2_with fail
      clear t0 t1 t2 t3 t4 t5
      generalize w2.alloc (.cells #[.int .i64 0, .int .i64 0, .slice a2 L.length c2] 28) = W2 at *
      generalize w2.heap.size = b2 at *
      refine (implChainOf_ok a2 c2 L.length L nm _ W2 R2.out rfl HLR.out HLR.out.tiny HLA.out).mono ?_
      rw [← HCH.out]
      rintro e w3 ⟨a3, c3, rfl, hr3, hc3, hb3⟩
      have A3 := hide (below_next hb3 (below_alloc w3 (.cells #[.int .i64 0, .slice a3 CH.length c3] 33)))
      have X3 := hide (Two.new w3 (.int .i64 0) (.slice a3 CH.length c3) 33)
      have RC := hide (hr3.below (below_alloc w3 (.cells #[.int .i64 0, .slice a3 CH.length c3] 33)))
      have R2n := hide (R2.out.below A3.out)
      have RDn := hide (RD.out.below A3.out)
      have X2n := hide (X2.out.below A3.out)
      have B3 := hide (below_next B2.out A3.out)
      clear hr3 hb3 A3 B2 R2 RD X2
      have R2 := R2n
      have RD := RDn
      have X2 := X2n
      clear R2n RDn X2n
      obtain ⟨LE, hLE⟩ : ∃ LE, LE = putN L (leaS ⟨nm, pa, 1, false, []⟩ true) := ⟨_, rfl⟩
      obtain ⟨LW, hLW⟩ : ∃ LW, LW = putN l ⟨nm, pa, 2, false, [quE]⟩ := ⟨_, rfl⟩
      obtain ⟨OF, hOF⟩ : ∃ OF, OF = offN L nm := ⟨_, rfl⟩
      have HT1 := hide (fun u (hu : RdS u a2 L) => implLeaseSnap_ok a2 c2 L.length L nm true ⟨nm, pa, 1, false, []⟩ u hu rfl HLR.out HLR.out.tiny HLA.out)
      have HT2 := hide (fun u (hu : RdS u a2 L) => implRemoveSnap_ok a2 c2 L.length L nm ⟨nm, pa, 1, false, []⟩ u hu rfl HLR.out HLR.out.tiny HLA.out)
      have HT3 := hide (fun u x (hu : RdS u av l) (hx : RdE u x [quE]) => implAddSnap_ok av cv l.length l nm pa x 1 1 [quE] u hu rfl HRi.out SM.out (by omega) (by omega) hx rfl qu_ok (right_small (right_P.1 qu_ok)))
      rw [← hLE] at HT1
      rw [HOF.out, aft_zero, ← hOF] at HT2
      rw [HAG.out.1, aft_zero, ← hLW] at HT3
      have HT4 := hide (fun u y d (hu : RdS u y LE) => implRemoveSnap_ok y d LE.length LE nm (leaS ⟨nm, pa, 1, false, []⟩ true) u hu rfl (hLE ▸ HE.out.1) (hLE ▸ HE.out.1).tiny (hLE ▸ HE.out.2.1))
      rw [show remR LE (leaS ⟨nm, pa, 1, false, []⟩ true) = 7 from hLE ▸ HE.out.2.2] at HT4
      have HT5 := hide (fun u y d (hu : RdS u y LW) => implCommitSnap_ok y d LW.length LW nm ⟨nm, pa, 2, false, [quE]⟩ u hu rfl (hLW ▸ HAG.out.2.1) (hLW ▸ HAG.out.2.1).tiny (hLW ▸ HAG.out.2.2))
      rw [show comR ⟨nm, pa, 2, false, [quE]⟩ = 10 from rfl] at HT5
      have HT6 := hide (fun u (hu : RdS u a2 L) => implSnapsFault_any a2 c2 L.length L u hu rfl (by have := HL0.out; omega) HLR.out.tiny)
      rw [HSF.out] at HT6
      have HOL := hide (show OF.length = l.length by rw [hOF]; exact HLN.out)
      clear hLE hLW hOF HOF HLN HE HAG HLA HSF
      by_cases hpa : pa = []
      · have hN := hide (HN1.out hpa)
        have hpe : (str pa).toList.isEmpty = true := by rw [hpa, str_toList]; rfl
        clear hpa
        have BW := B3
        clear B3 RC
        obtain ⟨W3, hW3⟩ : ∃ W3, W3 = w3.alloc (.cells #[.int .i64 0, .slice a3 CH.length c3] 33) := ⟨_, rfl⟩
        have HW3 := hide hW3
        rw [← hW3] at R2 RD X2 X3 BW
        have hLen : ((CH.length : Int) == 1) = true := by have := hN.out; simp; omega
        clear hW3 hN
        obtain ⟨⟨z0, z1, z2⟩, z3, z4, z5⟩ := X2.out
        rw [HW3.out] at z0 z1 z2 z3 z4 z5
        go_wp2_with fail
        rw [← HW3.out]
        clear z0 z1 z2 z3 z4 z5
        generalize w3.heap.size = b3 at *
        refine (HT1.out _ R2.out).mono ?_
        rintro e w5 ⟨a5, c5, rfl, hH5, hb5⟩
        have A5 := hide (below_next hb5 (below_alloc w5 (.cells #[.int .i64 0, .int .i64 0, .slice a5 LE.length c5] 28)))
        have X5 := hide (Box3.new w5 (.int .i64 0) (.int .i64 0) (.slice a5 LE.length c5) 28)
        have R5 := hide (hH5.rd.below (below_alloc w5 (.cells #[.int .i64 0, .int .i64 0, .slice a5 LE.length c5] 28)))
        have R2n := hide (R2.out.below A5.out)
        have RDn := hide (RD.out.below A5.out)
        have X2n := hide (X2.out.below A5.out)
        have X3n := hide (X3.out.below A5.out)
        have BWn := hide (below_next BW.out A5.out)
        clear BW hH5 hb5 A5
        have BW := BWn
        clear BWn
        clear R2 RD X2 X3
        have R2 := R2n
        have RD := RDn
        have X2 := X2n
        have X3 := X3n
        clear R2n RDn X2n X3n
        obtain ⟨⟨t0, t1, t2⟩, t3, t4, t5⟩ := X2.out
        go_wp2_with fail
        clear t0 t1 t2 t3 t4 t5
        generalize w5.alloc (.cells #[.int .i64 0, .int .i64 0, .slice a5 LE.length c5] 28) = W5 at *
        generalize w5.heap.size = b5 at *
        refine (HT2.out _ R2.out).mono ?_
        rintro e w6 ⟨a6, c6, rfl, -, hb6⟩
        have A6 := hide (below_next hb6 (below_alloc w6 (.cells #[.int .i64 0, .int .i64 0, .slice a6 OF.length c6] 28)))
        have X6 := hide (Box3.new w6 (.int .i64 0) (.int .i64 0) (.slice a6 OF.length c6) 28)
        have R2n := hide (R2.out.below A6.out)
        have RDn := hide (RD.out.below A6.out)
        have X2n := hide (X2.out.below A6.out)
        have X3n := hide (X3.out.below A6.out)
        have X5n := hide (X5.out.below A6.out)
        have R5n := hide (R5.out.below A6.out)
        have BWn := hide (below_next BW.out A6.out)
        clear BW hb6 A6
        have BW := BWn
        clear BWn
        clear R2 RD X2 X3 X5 R5
        have R2 := R2n
        have RD := RDn
        have X2 := X2n
        have X3 := X3n
        have X5 := X5n
        have R5 := R5n
        clear R2n RDn X2n X3n X5n R5n
        obtain ⟨W6, hW6⟩ : ∃ W6, W6 = w6.alloc (.cells #[.int .i64 0, .int .i64 0, .slice a6 OF.length c6] 28) := ⟨_, rfl⟩
        have HW6 := hide hW6
        rw [← hW6] at R2 RD X2 X3 X5 R5 X6 BW
        rw [HOL.out] at X6
        have HS6 : Hid (W6.heap.size = w6.heap.size + 1) := hide (by rw [hW6]; simp)
        clear hW6
        have AE := hide (below_alloc W6 (.cells #[.string ⟨#[47, 113]⟩, .int .i64 2, .int .i64 0, .slice none 0 0] 50))
        have FE : Hid (Four (W6.alloc (.cells #[.string ⟨#[47, 113]⟩, .int .i64 2, .int .i64 0, .slice none 0 0] 50)) W6.heap.size (.string (str [47, 113])) (.int .i64 2) (.int .i64 0) (.slice none 0 0)) := hide (Four.new W6 _ _ _ _ _)
        have RE := hide (rdE_qu (e := quE) FE.out rfl)
        rw [HS6.out] at RE
        clear HS6
        have R2n := hide (R2.out.below AE.out)
        have RDn := hide (RD.out.below AE.out)
        have X2n := hide (X2.out.below AE.out)
        have X3n := hide (X3.out.below AE.out)
        have X5n := hide (X5.out.below AE.out)
        have R5n := hide (R5.out.below AE.out)
        have X6n := hide (X6.out.below AE.out)
        have BWn := hide (below_next BW.out AE.out)
        clear BW AE FE
        have BW := BWn
        clear BWn
        clear R2 RD X2 X3 X5 R5 X6
        have R2 := R2n
        have RD := RDn
        have X2 := X2n
        have X3 := X3n
        have X5 := X5n
        have R5 := R5n
        have X6 := X6n
        clear R2n RDn X2n X3n X5n R5n X6n
        go_wp2_with fail
        rw [← HW6.out]
        generalize hb6' : w6.heap.size = b6 at *
        clear hb6' HW6
        refine (HT3.out _ _ RD.out RE.out).mono ?_
        rintro e w7 ⟨a7, c7, rfl, hH7, hb7⟩
        have A7 := hide (below_next hb7 (below_alloc w7 (.cells #[.int .i64 0, .int .i64 0, .slice a7 LW.length c7] 28)))
        have X7 := hide (Box3.new w7 (.int .i64 0) (.int .i64 0) (.slice a7 LW.length c7) 28)
        have R7 := hide (hH7.rd.below (below_alloc w7 (.cells #[.int .i64 0, .int .i64 0, .slice a7 LW.length c7] 28)))
        have R2n := hide (R2.out.below A7.out)
        have X2n := hide (X2.out.below A7.out)
        have X3n := hide (X3.out.below A7.out)
        have X5n := hide (X5.out.below A7.out)
        have R5n := hide (R5.out.below A7.out)
        have X6n := hide (X6.out.below A7.out)
        have BWn := hide (below_next BW.out A7.out)
        clear BW hH7 hb7 A7 RD RE
        have BW := BWn
        clear BWn
        clear R2 X2 X3 X5 R5 X6
        have R2 := R2n
        have X2 := X2n
        have X3 := X3n
        have X5 := X5n
        have R5 := R5n
        have X6 := X6n
        clear R2n X2n X3n X5n R5n X6n
        obtain ⟨t0, t1⟩ := X3.out
        obtain ⟨⟨u0, u1, u2⟩, -, -, -⟩ := X5.out
        obtain ⟨⟨v0, v1, v2⟩, -, -, -⟩ := X6.out
        obtain ⟨⟨x0, x1, x2⟩, -, -, -⟩ := X2.out
        obtain ⟨⟨y0, y1, y2⟩, -, -, -⟩ := X7.out
        go_wp2_with fail
        clear t0 t1 u0 u1 u2 v0 v1 v2 x0 x1 x2 y0 y1 y2
        generalize w7.alloc (.cells #[.int .i64 0, .int .i64 0, .slice a7 LW.length c7] 28) = W7 at *
        generalize w7.heap.size = b7 at *
        refine (HT4.out _ _ _ R5.out).mono ?_
        rintro e w8 ⟨a8, c8, rfl, -, hb8⟩
        have R2n := hide (R2.out.below hb8)
        have X2n := hide (X2.out.below hb8)
        have X3n := hide (X3.out.below hb8)
        have X5n := hide (X5.out.below hb8)
        have X6n := hide (X6.out.below hb8)
        have X7n := hide (X7.out.below hb8)
        have R7n := hide (R7.out.below hb8)
        have BWn := hide (below_next BW.out hb8)
        clear BW hb8 R5
        have BW := BWn
        clear BWn
        clear R2 X2 X3 X5 X6 X7 R7
        have R2 := R2n
        have X2 := X2n
        have X3 := X3n
        have X5 := X5n
        have X6 := X6n
        have X7 := X7n
        have R7 := R7n
        clear R2n X2n X3n X5n X6n X7n R7n
        obtain ⟨t0, t1⟩ := X3.out
        obtain ⟨⟨u0, u1, u2⟩, -, -, -⟩ := X5.out
        obtain ⟨⟨v0, v1, v2⟩, -, -, -⟩ := X6.out
        obtain ⟨⟨x0, x1, x2⟩, -, -, -⟩ := X2.out
        obtain ⟨⟨y0, y1, y2⟩, -, -, -⟩ := X7.out
        go_wp2_with fail
        clear t0 t1 u0 u1 u2 v0 v1 v2 x0 x1 x2 y0 y1 y2
        refine (HT6.out _ R2.out).mono ?_
        rintro e w9 ⟨rfl, hb9⟩
        have X3n := hide (X3.out.below hb9)
        have X2n := hide (X2.out.below hb9)
        have X5n := hide (X5.out.below hb9)
        have X6n := hide (X6.out.below hb9)
        have X7n := hide (X7.out.below hb9)
        have R7n := hide (R7.out.below hb9)
        have BWn := hide (below_next BW.out hb9)
        clear BW hb9
        have BW := BWn
        clear BWn
        clear X3 X2 X5 X6 X7 R7
        have X3 := X3n
        have X2 := X2n
        have X5 := X5n
        have X6 := X6n
        have X7 := X7n
        have R7 := R7n
        clear X3n X2n X5n X6n X7n R7n
        obtain ⟨t0, t1⟩ := X3.out
        obtain ⟨⟨u0, u1, u2⟩, -, -, -⟩ := X5.out
        obtain ⟨⟨v0, v1, v2⟩, -, -, -⟩ := X6.out
        obtain ⟨⟨x0, x1, x2⟩, -, -, -⟩ := X2.out
        obtain ⟨⟨y0, y1, y2⟩, -, -, -⟩ := X7.out
        go_wp2_with fail
        refine (HT5.out _ _ _ R7.out).mono ?_
        rintro e w10 ⟨a10, c10, rfl, -, hb10⟩
        have BE := hide (below_next BW.out hb10)
        clear hb10
        go_wp2_with fail
        go_ret
        exact ⟨ret_bool (by simp), BE.out⟩
      · have HOP := hide (HON.out hpa)
        have hpe : (str pa).toList.isEmpty = false := by rw [str_toList]; cases hq : pa with | nil => exact absurd hq hpa | cons _ _ => rfl
        go_wp2_with fail
        generalize w3.alloc (.cells #[.int .i64 0, .slice a3 CH.length c3] 33) = W3 at *
        generalize w3.heap.size = b3 at *
        obtain ⟨p, e1, e2, e3, e4, e5, e6⟩ := HOP.out
        clear HOP hpe
        obtain ⟨CP, hCP⟩ : ∃ CP, CP = chainS l p := ⟨_, rfl⟩
        rw [← hCP] at e3 e4 e5
        have HCC := hide (implChainOf_ok av cv l.length l pa p W3 RD.out rfl HRi.out SM.out e1)
        rw [← hCP] at HCC
        have hcp4 : CP.length ≤ 4 := (layersP_zero.1 e3).1
        have hch4 : CH.length ≤ 4 := (layersP_zero.1 HFA.out).1
        obtain ⟨M, hM⟩ : ∃ M, M = malL CP := ⟨_, rfl⟩
        obtain ⟨hMl, hMs⟩ := mal_small e3
        rw [← hM] at hMl hMs e5
        have HM1 := hide (fun u (hu : RdL u a3 CH) => implMergeAll_any a3 c3 CH.length CH u hu rfl (by omega) (right_smallL HFA.out))
        rw [e5] at HM1
        generalize malC CH = q1 at *
        have HM2 := hide (fun u y d (hu : RdL u y CP) => implMergeAll_any y d CP.length CP u hu rfl (by omega) (right_smallL e3))
        rw [← hM] at HM2
        generalize malC CP = q2 at *
        have HRm := hide (fun u (hu : RdS u a2 L) => implRemoveSnap_ok a2 c2 L.length L pa p u hu rfl HLR.out HLR.out.tiny e2)
        rw [e6] at HRm
        have HMs := hide hMs
        have HN := hide e4
        clear e1 e2 e3 e4 e5 e6 hCP hM hMs
        refine HCC.out.mono ?_
        rintro e w4 ⟨a4, c4, rfl, hr4, hc4, hb4⟩
        have A4 := hide (below_next hb4 (below_alloc w4 (.cells #[.int .i64 0, .slice a4 CP.length c4] 33)))
        have X4 := hide (Two.new w4 (.int .i64 0) (.slice a4 CP.length c4) 33)
        have RP := hide (hr4.below (below_alloc w4 (.cells #[.int .i64 0, .slice a4 CP.length c4] 33)))
        have R2n := hide (R2.out.below A4.out)
        have RDn := hide (RD.out.below A4.out)
        have X2n := hide (X2.out.below A4.out)
        have X3n := hide (X3.out.below A4.out)
        have RCn := hide (RC.out.below A4.out)
        have B4 := hide (below_next B3.out A4.out)
        clear hr4 hb4 A4 B3 R2 RD X2 X3 RC HCC
        have R2 := R2n
        have RD := RDn
        have X2 := X2n
        have X3 := X3n
        have RC := RCn
        clear R2n RDn X2n X3n RCn
        obtain ⟨t0, t1⟩ := X4.out
        go_upto_region 13 with fail
        clear t0 t1
        generalize w4.alloc (.cells #[.int .i64 0, .slice a4 CP.length c4] 33) = W4 at *
        generalize w4.heap.size = b4 at *
        have KS : Hid (∀ u : World, Below W4.heap.size W4 u → u.cell? ⟨b3, 1, none⟩ = some (.slice a3 CH.length c3) ∧ u.cell? ⟨b4, 1, none⟩ = some (.slice a4 CP.length c4) ∧ u.cell? ⟨b2, 2, none⟩ = some (.slice a2 L.length c2)) := hide (fun u hb => ⟨(X3.out.below hb).2, (X4.out.below hb).2, (X2.out.below hb).1.2.2⟩)
        have BX := hide (Below.refl W4.heap.size W4).drew
        refine wp_region_held_drew (S := fun u : World => u.cell? ⟨b3, 1, none⟩ = some (.slice a3 CH.length c3) ∧ u.cell? ⟨b4, 1, none⟩ = some (.slice a4 CP.length c4) ∧ u.cell? ⟨b2, 2, none⟩ = some (.slice a2 L.length c2)) (by kernel_rfl) (KS.out _ BX.out) (fun hHeld => ?_)
        change wpAnyH _ _ _ _ _ _ (Array.replicate _ false) _ _
        refine tk 0 63 (.pointer (some ⟨b3, 1, none⟩)) hHeld rfl (by kernel_rfl) (by kernel_rfl) (by kernel_rfl) (fun _ _ _ h => h) (Or.inl ⟨by rfl, ?_⟩) ?_
        · rintro w ⟨q0, q1, q2⟩
          go_simp <;> (first | done | omega | (intro _; omega))
        try simp only [Act.put, List.setIfInBounds_toArray, List.set_cons_zero, List.set_cons_succ]
        refine tk 1 64 (.slice a3 CH.length c3) hHeld rfl (by kernel_rfl) (by kernel_rfl) (by kernel_rfl) (fun _ _ _ h => h) (Or.inl ⟨by rfl, ?_⟩) ?_
        · rintro w ⟨q0, q1, q2⟩
          go_simp <;> (first | done | omega | (intro _; omega))
        try simp only [Act.put, List.setIfInBounds_toArray, List.set_cons_zero, List.set_cons_succ]
        refine tk 4 67 (.pointer (some ⟨b4, 1, none⟩)) hHeld rfl (by kernel_rfl) (by kernel_rfl) (by kernel_rfl) (fun _ _ _ h => h) (Or.inl ⟨by rfl, ?_⟩) ?_
        · rintro w ⟨q0, q1, q2⟩
          go_simp <;> (first | done | omega | (intro _; omega))
        try simp only [Act.put, List.setIfInBounds_toArray, List.set_cons_zero, List.set_cons_succ]
        refine tk 5 68 (.slice a4 CP.length c4) hHeld rfl (by kernel_rfl) (by kernel_rfl) (by kernel_rfl) (fun _ _ _ h => h) (Or.inl ⟨by rfl, ?_⟩) ?_
        · rintro w ⟨q0, q1, q2⟩
          go_simp <;> (first | done | omega | (intro _; omega))
        try simp only [Act.put, List.setIfInBounds_toArray, List.set_cons_zero, List.set_cons_succ]
        refine wpAnyH_ready (rs := [2]) (by kernel_rfl) (by simp) ?_
        refine AllReadyH.cons rfl (fun K hK => ?_) AllReadyH.nil
        go_simp
        refine (HM1.out _ (RC.out.below BX.out)).mono ?_
        rintro e x1 ⟨ta, tc, rfl, hG1, hxx1⟩
        have BXn := hide (below_next BX.out hxx1)
        have T1 := hide hG1.rd
        clear hG1
        clear hxx1 BX
        have BX := BXn
        clear BXn
        go_wp2_with fail
        refine hK.out _ _ (KS.out _ BX.out) (fun hHeld => ?_)
        clear hK K
        try simp only [Act.put, List.setIfInBounds_toArray, List.set_cons_zero, List.set_cons_succ]
        refine tk 3 66 (.slice ta M.length tc) hHeld rfl (by kernel_rfl) (by kernel_rfl) (by kernel_rfl) (fun _ _ _ h => h) (Or.inl ⟨by rfl, ?_⟩) ?_
        · rintro w ⟨q0, q1, q2⟩
          go_simp <;> (first | done | omega | (intro _; omega))
        try simp only [Act.put, List.setIfInBounds_toArray, List.set_cons_zero, List.set_cons_succ]
        refine wpAnyH_ready (rs := [6]) (by kernel_rfl) (by simp) ?_
        refine AllReadyH.cons rfl (fun K hK => ?_) AllReadyH.nil
        go_simp
        refine (HM2.out _ _ _ (RP.out.below BX.out)).mono ?_
        rintro e x2 ⟨tb, td, rfl, hG2, hxx2⟩
        have BXn := hide (below_next BX.out hxx2)
        have T2 := hide hG2.rd
        have T1n := hide (T1.out.below hxx2)
        clear hG2 T1
        have T1 := T1n
        clear T1n
        clear hxx2 BX
        have BX := BXn
        clear BXn
        go_wp2_with fail
        refine hK.out _ _ (KS.out _ BX.out) (fun hHeld => ?_)
        clear hK K
        try simp only [Act.put, List.setIfInBounds_toArray, List.set_cons_zero, List.set_cons_succ]
        refine tk 7 70 (.slice tb M.length td) hHeld rfl (by kernel_rfl) (by kernel_rfl) (by kernel_rfl) (fun _ _ _ h => h) (Or.inl ⟨by rfl, ?_⟩) ?_
        · rintro w ⟨q0, q1, q2⟩
          go_simp <;> (first | done | omega | (intro _; omega))
        try simp only [Act.put, List.setIfInBounds_toArray, List.set_cons_zero, List.set_cons_succ]
        refine wpAnyH_ready (rs := [8]) (by kernel_rfl) (by simp) ?_
        refine AllReadyH.cons rfl (fun K hK => ?_) AllReadyH.nil
        go_simp
        refine (implSameLayers_any ta tb tc td M.length M.length M M _ T1.out T2.out rfl rfl (by omega) (by omega) HMs.out HMs.out).mono ?_
        rintro e x3 ⟨rfl, hxx3⟩
        have BXn := hide (below_next BX.out hxx3)
        rw [decide_eq_true (rfl : M = M)]
        clear hxx3 BX
        have BX := BXn
        clear BXn
        go_wp2_with fail
        refine hK.out _ _ (KS.out _ BX.out) (fun hHeld => ?_)
        clear hK K
        try simp only [Act.put, List.setIfInBounds_toArray, List.set_cons_zero, List.set_cons_succ]
        refine tk 9 72 (.bool false) hHeld rfl (by kernel_rfl) (by kernel_rfl) (by kernel_rfl) (fun _ _ _ h => h) (Or.inl ⟨by rfl, ?_⟩) ?_
        · rintro w ⟨q0, q1, q2⟩
          go_simp <;> (first | done | omega | (intro _; omega))
        try simp only [Act.put, List.setIfInBounds_toArray, List.set_cons_zero, List.set_cons_succ]
        refine tk 10 73 (.bool false) hHeld rfl (by kernel_rfl) (by kernel_rfl) (by kernel_rfl) (fun _ _ _ h => h) (Or.inl ⟨by rfl, ?_⟩) ?_
        · rintro w ⟨q0, q1, q2⟩
          go_simp <;> (first | done | omega | (intro _; omega))
        try simp only [Act.put, List.setIfInBounds_toArray, List.set_cons_zero, List.set_cons_succ]
        refine tk 11 74 (.pointer (some ⟨b2, 2, none⟩)) hHeld rfl (by kernel_rfl) (by kernel_rfl) (by kernel_rfl) (fun _ _ _ h => h) (Or.inl ⟨by rfl, ?_⟩) ?_
        · rintro w ⟨q0, q1, q2⟩
          go_simp <;> (first | done | omega | (intro _; omega))
        try simp only [Act.put, List.setIfInBounds_toArray, List.set_cons_zero, List.set_cons_succ]
        refine tk 12 75 (.slice a2 L.length c2) hHeld rfl (by kernel_rfl) (by kernel_rfl) (by kernel_rfl) (fun _ _ _ h => h) (Or.inl ⟨by rfl, ?_⟩) ?_
        · rintro w ⟨q0, q1, q2⟩
          go_simp <;> (first | done | omega | (intro _; omega))
        try simp only [Act.put, List.setIfInBounds_toArray, List.set_cons_zero, List.set_cons_succ]
        refine tk 13 76 (.string (str pa)) hHeld rfl (by kernel_rfl) (by kernel_rfl) (by kernel_rfl) (fun _ _ _ h => h) (Or.inl ⟨by rfl, ?_⟩) ?_
        · rintro w ⟨q0, q1, q2⟩
          go_simp <;> (first | done | omega | (intro _; omega))
        try simp only [Act.put, List.setIfInBounds_toArray, List.set_cons_zero, List.set_cons_succ]
        refine wpAnyH_ready (rs := [14]) (by kernel_rfl) (by simp) ?_
        refine AllReadyH.cons rfl (fun K hK => ?_) AllReadyH.nil
        go_simp
        refine (HRm.out _ (R2.out.below BX.out)).mono ?_
        rintro e x4 ⟨ra, rc, rfl, -, hxx4⟩
        have BXn := hide (below_next BX.out hxx4)
        clear hxx4 BX
        have BX := BXn
        clear BXn
        go_wp2_with fail
        refine hK.out _ _ (KS.out _ BX.out) (fun hHeld => ?_)
        clear hK K
        try simp only [Act.put, List.setIfInBounds_toArray, List.set_cons_zero, List.set_cons_succ]
        refine tk 15 78 (.int .i64 7) hHeld rfl (by kernel_rfl) (by kernel_rfl) (by kernel_rfl) (fun _ _ _ h => h) (Or.inl ⟨by rfl, ?_⟩) ?_
        · rintro w ⟨q0, q1, q2⟩
          go_simp <;> (first | done | omega | (intro _; omega))
        try simp only [Act.put, List.setIfInBounds_toArray, List.set_cons_zero, List.set_cons_succ]
        refine tk 16 79 (.bool false) hHeld rfl (by kernel_rfl) (by kernel_rfl) (by kernel_rfl) (fun _ _ _ h => h) (Or.inl ⟨by rfl, ?_⟩) ?_
        · rintro w ⟨q0, q1, q2⟩
          go_simp <;> (first | done | omega | (intro _; omega))
        try simp only [Act.put, List.setIfInBounds_toArray, List.set_cons_zero, List.set_cons_succ]
        refine tk 17 80 (.bool false) hHeld rfl (by kernel_rfl) (by kernel_rfl) (by kernel_rfl) (fun _ _ _ h => h) (Or.inl ⟨by rfl, ?_⟩) ?_
        · rintro w ⟨q0, q1, q2⟩
          go_simp <;> (first | done | omega | (intro _; omega))
        try simp only [Act.put, List.setIfInBounds_toArray, List.set_cons_zero, List.set_cons_succ]
        refine wpAnyH_done (by kernel_rfl) ?_ _
        have R2n := hide (R2.out.below BX.out)
        have RDn := hide (RD.out.below BX.out)
        have X2n := hide (X2.out.below BX.out)
        have X3n := hide (X3.out.below BX.out)
        have BW := hide (below_next B4.out BX.out)
        clear R2 RD X2 X3 BX B4 T1 T2 RC RP KS HM1 HM2 HRm HMs X4 hHeld
        have R2 := R2n
        have RD := RDn
        have X2 := X2n
        have X3 := X3n
        clear R2n RDn X2n X3n
        have hLen : ((CH.length : Int) == (CP.length : Int) + 1) = true := by have := HN.out; simp; omega
        clear HN
        obtain ⟨⟨t0, t1, t2⟩, t3, t4, t5⟩ := X2.out
        go_wp2_with fail
        clear t0 t1 t2 t3 t4 t5
        refine (HT1.out _ R2.out).mono ?_
        rintro e w5 ⟨a5, c5, rfl, hH5, hb5⟩
        have A5 := hide (below_next hb5 (below_alloc w5 (.cells #[.int .i64 0, .int .i64 0, .slice a5 LE.length c5] 28)))
        have X5 := hide (Box3.new w5 (.int .i64 0) (.int .i64 0) (.slice a5 LE.length c5) 28)
        have R5 := hide (hH5.rd.below (below_alloc w5 (.cells #[.int .i64 0, .int .i64 0, .slice a5 LE.length c5] 28)))
        have R2n := hide (R2.out.below A5.out)
        have RDn := hide (RD.out.below A5.out)
        have X2n := hide (X2.out.below A5.out)
        have X3n := hide (X3.out.below A5.out)
        have BWn := hide (below_next BW.out A5.out)
        clear BW hH5 hb5 A5
        have BW := BWn
        clear BWn
        clear R2 RD X2 X3
        have R2 := R2n
        have RD := RDn
        have X2 := X2n
        have X3 := X3n
        clear R2n RDn X2n X3n
        obtain ⟨⟨t0, t1, t2⟩, t3, t4, t5⟩ := X2.out
        go_wp2_with fail
        clear t0 t1 t2 t3 t4 t5
        generalize w5.alloc (.cells #[.int .i64 0, .int .i64 0, .slice a5 LE.length c5] 28) = W5 at *
        generalize w5.heap.size = b5 at *
        refine (HT2.out _ R2.out).mono ?_
        rintro e w6 ⟨a6, c6, rfl, -, hb6⟩
        have A6 := hide (below_next hb6 (below_alloc w6 (.cells #[.int .i64 0, .int .i64 0, .slice a6 OF.length c6] 28)))
        have X6 := hide (Box3.new w6 (.int .i64 0) (.int .i64 0) (.slice a6 OF.length c6) 28)
        have R2n := hide (R2.out.below A6.out)
        have RDn := hide (RD.out.below A6.out)
        have X2n := hide (X2.out.below A6.out)
        have X3n := hide (X3.out.below A6.out)
        have X5n := hide (X5.out.below A6.out)
        have R5n := hide (R5.out.below A6.out)
        have BWn := hide (below_next BW.out A6.out)
        clear BW hb6 A6
        have BW := BWn
        clear BWn
        clear R2 RD X2 X3 X5 R5
        have R2 := R2n
        have RD := RDn
        have X2 := X2n
        have X3 := X3n
        have X5 := X5n
        have R5 := R5n
        clear R2n RDn X2n X3n X5n R5n
        obtain ⟨W6, hW6⟩ : ∃ W6, W6 = w6.alloc (.cells #[.int .i64 0, .int .i64 0, .slice a6 OF.length c6] 28) := ⟨_, rfl⟩
        have HW6 := hide hW6
        rw [← hW6] at R2 RD X2 X3 X5 R5 X6 BW
        rw [HOL.out] at X6
        have HS6 : Hid (W6.heap.size = w6.heap.size + 1) := hide (by rw [hW6]; simp)
        clear hW6
        have AE := hide (below_alloc W6 (.cells #[.string ⟨#[47, 113]⟩, .int .i64 2, .int .i64 0, .slice none 0 0] 50))
        have FE : Hid (Four (W6.alloc (.cells #[.string ⟨#[47, 113]⟩, .int .i64 2, .int .i64 0, .slice none 0 0] 50)) W6.heap.size (.string (str [47, 113])) (.int .i64 2) (.int .i64 0) (.slice none 0 0)) := hide (Four.new W6 _ _ _ _ _)
        have RE := hide (rdE_qu (e := quE) FE.out rfl)
        rw [HS6.out] at RE
        clear HS6
        have R2n := hide (R2.out.below AE.out)
        have RDn := hide (RD.out.below AE.out)
        have X2n := hide (X2.out.below AE.out)
        have X3n := hide (X3.out.below AE.out)
        have X5n := hide (X5.out.below AE.out)
        have R5n := hide (R5.out.below AE.out)
        have X6n := hide (X6.out.below AE.out)
        have BWn := hide (below_next BW.out AE.out)
        clear BW AE FE
        have BW := BWn
        clear BWn
        clear R2 RD X2 X3 X5 R5 X6
        have R2 := R2n
        have RD := RDn
        have X2 := X2n
        have X3 := X3n
        have X5 := X5n
        have R5 := R5n
        have X6 := X6n
        clear R2n RDn X2n X3n X5n R5n X6n
        go_wp2_with fail
        rw [← HW6.out]
        generalize hb6' : w6.heap.size = b6 at *
        clear hb6' HW6
        refine (HT3.out _ _ RD.out RE.out).mono ?_
        rintro e w7 ⟨a7, c7, rfl, hH7, hb7⟩
        have A7 := hide (below_next hb7 (below_alloc w7 (.cells #[.int .i64 0, .int .i64 0, .slice a7 LW.length c7] 28)))
        have X7 := hide (Box3.new w7 (.int .i64 0) (.int .i64 0) (.slice a7 LW.length c7) 28)
        have R7 := hide (hH7.rd.below (below_alloc w7 (.cells #[.int .i64 0, .int .i64 0, .slice a7 LW.length c7] 28)))
        have R2n := hide (R2.out.below A7.out)
        have X2n := hide (X2.out.below A7.out)
        have X3n := hide (X3.out.below A7.out)
        have X5n := hide (X5.out.below A7.out)
        have R5n := hide (R5.out.below A7.out)
        have X6n := hide (X6.out.below A7.out)
        have BWn := hide (below_next BW.out A7.out)
        clear BW hH7 hb7 A7 RD RE
        have BW := BWn
        clear BWn
        clear R2 X2 X3 X5 R5 X6
        have R2 := R2n
        have X2 := X2n
        have X3 := X3n
        have X5 := X5n
        have R5 := R5n
        have X6 := X6n
        clear R2n X2n X3n X5n R5n X6n
        obtain ⟨t0, t1⟩ := X3.out
        obtain ⟨⟨u0, u1, u2⟩, -, -, -⟩ := X5.out
        obtain ⟨⟨v0, v1, v2⟩, -, -, -⟩ := X6.out
        obtain ⟨⟨x0, x1, x2⟩, -, -, -⟩ := X2.out
        obtain ⟨⟨y0, y1, y2⟩, -, -, -⟩ := X7.out
        go_wp2_with fail
        clear t0 t1 u0 u1 u2 v0 v1 v2 x0 x1 x2 y0 y1 y2
        generalize w7.alloc (.cells #[.int .i64 0, .int .i64 0, .slice a7 LW.length c7] 28) = W7 at *
        generalize w7.heap.size = b7 at *
        refine (HT4.out _ _ _ R5.out).mono ?_
        rintro e w8 ⟨a8, c8, rfl, -, hb8⟩
        have R2n := hide (R2.out.below hb8)
        have X2n := hide (X2.out.below hb8)
        have X3n := hide (X3.out.below hb8)
        have X5n := hide (X5.out.below hb8)
        have X6n := hide (X6.out.below hb8)
        have X7n := hide (X7.out.below hb8)
        have R7n := hide (R7.out.below hb8)
        have BWn := hide (below_next BW.out hb8)
        clear BW hb8 R5
        have BW := BWn
        clear BWn
        clear R2 X2 X3 X5 X6 X7 R7
        have R2 := R2n
        have X2 := X2n
        have X3 := X3n
        have X5 := X5n
        have X6 := X6n
        have X7 := X7n
        have R7 := R7n
        clear R2n X2n X3n X5n X6n X7n R7n
        obtain ⟨t0, t1⟩ := X3.out
        obtain ⟨⟨u0, u1, u2⟩, -, -, -⟩ := X5.out
        obtain ⟨⟨v0, v1, v2⟩, -, -, -⟩ := X6.out
        obtain ⟨⟨x0, x1, x2⟩, -, -, -⟩ := X2.out
        obtain ⟨⟨y0, y1, y2⟩, -, -, -⟩ := X7.out
        go_wp2_with fail
        clear t0 t1 u0 u1 u2 v0 v1 v2 x0 x1 x2 y0 y1 y2
        refine (HT6.out _ R2.out).mono ?_
        rintro e w9 ⟨rfl, hb9⟩
        have X3n := hide (X3.out.below hb9)
        have X2n := hide (X2.out.below hb9)
        have X5n := hide (X5.out.below hb9)
        have X6n := hide (X6.out.below hb9)
        have X7n := hide (X7.out.below hb9)
        have R7n := hide (R7.out.below hb9)
        have BWn := hide (below_next BW.out hb9)
        clear BW hb9
        have BW := BWn
        clear BWn
        clear X3 X2 X5 X6 X7 R7
        have X3 := X3n
        have X2 := X2n
        have X5 := X5n
        have X6 := X6n
        have X7 := X7n
        have R7 := R7n
        clear X3n X2n X5n X6n X7n R7n
        obtain ⟨t0, t1⟩ := X3.out
        obtain ⟨⟨u0, u1, u2⟩, -, -, -⟩ := X5.out
        obtain ⟨⟨v0, v1, v2⟩, -, -, -⟩ := X6.out
        obtain ⟨⟨x0, x1, x2⟩, -, -, -⟩ := X2.out
        obtain ⟨⟨y0, y1, y2⟩, -, -, -⟩ := X7.out
        go_wp2_with fail
        refine (HT5.out _ _ _ R7.out).mono ?_
        rintro e w10 ⟨a10, c10, rfl, -, hb10⟩
        have BE := hide (below_next BW.out hb10)
        clear hb10
        go_wp2_with fail
        go_ret
        exact ⟨ret_bool (by simp), BE.out⟩
    · obtain ⟨g, hge⟩ : ∃ g, g = growR l ⟨nm, pa, 1, false, []⟩ := ⟨_, rfl⟩
      rw [← hge] at HP HQ hg
      have hgb : (g == 0) = false := by simpa using hg
      clear hge hR
      go_wp2_with fail
      refine HP.out.mono ?_
      rintro e w2 ⟨a2, c2, rfl, -, hb2⟩
      have X2 := hide (Box3.new w2 (.int .i64 0) (.int .i64 g) (.slice a2 (aft g l (putN l ⟨nm, pa, 1, false, []⟩)).length c2) 28)
      have B2 := hide (below_next hb2 (below_alloc w2 (.cells #[.int .i64 0, .int .i64 g, .slice a2 (aft g l (putN l ⟨nm, pa, 1, false, []⟩)).length c2] 28)))
      have RD2 := hide (RD.out.below B2.out)
      have BB := hide (below_next B1.out B2.out)
      generalize (aft g l (putN l ⟨nm, pa, 1, false, []⟩)).length = n2 at *
      obtain ⟨⟨t0, t1, t2⟩, t3, t4, t5⟩ := X2.out
      clear hb2 HP B2
      go_wp2_with fail
      refine (HQ.out _ RD2.out).mono ?_
      rintro e w3 (⟨-, av3, cv3, rfl, -, hb3⟩ | ⟨h0, -⟩)
      · have BB3 := hide (below_next BB.out (below_next hb3 (below_alloc w3 (.cells #[.int .i64 0, .int .i64 g, .slice av3 l.length cv3] 28))))
        obtain ⟨⟨s0, s1, s2⟩, s3, s4, s5⟩ := X2.out.below (below_next hb3 (below_alloc w3 (.cells #[.int .i64 0, .int .i64 g, .slice av3 l.length cv3] 28)))
        obtain ⟨⟨v0, v1, v2⟩, v3, v4, v5⟩ := Box3.new w3 (.int .i64 0) (.int .i64 g) (.slice av3 l.length cv3) 28
        clear hb3 t0 t1 t2 t3 t4 t5 hgb
        go_wp2_with fail
        go_ret
        exact ⟨ret_bool (by simp), BB3.out⟩
      · exact absurd h0 hg
  · have HP := hide (implPrepareSnap_bad av cv l.length l nm pa w1 RD.out rfl (by omega) SM.out hz)
    have HQ := hide (fun u (hu : RdS u av l) => specPrepareSnap_bad av cv l.length l nm pa u hu rfl (by omega) SM.out (by rw [snM_same GD.out]; exact hz))
    rw [snM_same GD.out] at HQ
    obtain ⟨g, hge⟩ : ∃ g, g = snF l := ⟨_, rfl⟩
    rw [← hge] at HP HQ hz
    have hgb : (g == 0) = false := by simpa using hz
    clear hge
    go_wp2_with fail
    refine HP.out.mono ?_
    rintro e w2 ⟨a2, c2, rfl, -, hb2⟩
    have X2 := hide (Box3.new w2 (.int .i64 g) (.int .i64 0) (.slice a2 0 c2) 28)
    have B2 := hide (below_next hb2 (below_alloc w2 (.cells #[.int .i64 g, .int .i64 0, .slice a2 0 c2] 28)))
    have RD2 := hide (RD.out.below B2.out)
    have BB := hide (below_next B1.out B2.out)
    obtain ⟨⟨t0, t1, t2⟩, t3, t4, t5⟩ := X2.out
    clear hb2 HP B2
    go_wp2_with fail
    refine (HQ.out _ RD2.out).mono ?_
    rintro e w3 ⟨rfl, hb3⟩
    have BB3 := hide (below_next BB.out (below_next hb3 (below_alloc w3 (.cells #[.int .i64 g, .int .i64 0, .slice none 0 0] 28))))
    obtain ⟨⟨s0, s1, s2⟩, s3, s4, s5⟩ := X2.out.below (below_next hb3 (below_alloc w3 (.cells #[.int .i64 g, .int .i64 0, .slice none 0 0] 28)))
    obtain ⟨⟨v0, v1, v2⟩, v3, v4, v5⟩ := Box3.new w3 (.int .i64 g) (.int .i64 0) (.slice none 0 0) 28
    clear hb3 t0 t1 t2 t3 t4 t5 hgb
    go_wp2_with fail
    go_ret
    exact ⟨ret_bool (by simp), BB3.out⟩

set_option maxRecDepth 100000 in
theorem lifted (os : Os) (started : os.Started) (H : Type) (enc : TypeId × Value → H) :
    ReturnsInHanded {} Tryz.checked os 4 .any (Rows.fnGrowsSpec.pre6 enc Tryz.prog Tryz.f4 Rows.fnGrowsRow.domain false) (Rows.fnGrowsSpec.post enc Tryz.prog Tryz.f4 false true false false) := by
  refine returnsInHanded_of_change (C := Tryz.checked) own started (by kernel_rfl) Tryz.func4
    (ChangeSpec.witness6 (enc := enc) (C := Tryz.checked) false ⟨#[], #[.slice none 0 0], []⟩ 8 (by kernel_rfl) (by kernel_rfl) (by kernel_rfl) (by kernel_rfl)) ?_
  intro W base args ds gs before hval0 hW hcnd _
  have hval : ∀ (j : Nat) t v, Tryz.f4.params[j]? = some t → args[j]? = some v → Value.okWide Tryz.prog W .any base t v := hval0
  have hW' := hW
  obtain ⟨p, q, hA0, hV, rfl, hfz, hnd⟩ := hW
  have hA : DataW.TrodAll enc Tryz.prog W 0 (fun _ => true) true Tryz.f4.params.toList args.toList ds p := hA0
  rw [Tryz.params4] at hA hval
  obtain ⟨v0, vs0, d0, ds0, p0, q0, hargs, rfl, rfl, h0, r0⟩ := trodAll_cons hA
  obtain ⟨rfl, rfl, rfl⟩ := trodAll_nil r0
  obtain rfl : args = #[v0] := by cases args; simp_all
  obtain ⟨rfl, rfl⟩ := trodVars_none hV
  obtain ⟨a0, len0, cap0, rfl⟩ := okWide_slice Tryz.underlying22 (hval 0 22 v0 rfl rfl)
  have k0 := h0
  have lt0 : ∀ x ∈ p0, x.block < W.heap.size := by obtain ⟨m, hm⟩ := k0; exact DataW.trod_lt m _ _ _ hm
  obtain ⟨zs, hlen, hread, hu, hmax⟩ : ∃ zs : List Int, zs.length = len0 ∧ Reads .u8 W a0 zs ∧ U8 zs ∧ zs.length ≤ maxLen := by
    obtain ⟨fuel, hf⟩ := h0
    rcases open_ints Tryz.underlying22 Tryz.underlying5 (by kernel_rfl) hf with ⟨hcs, _⟩ | ⟨x, l, c, zs, hcs, _, hl, hm, hz, _, hcell, hwz⟩
    · simp [Value.cells] at hcs
      obtain ⟨rfl, rfl, rfl⟩ := hcs
      exact ⟨[], rfl, fun h => absurd rfl h, fun z hz => by simp at hz, Nat.zero_le _⟩
    · simp [Value.cells] at hcs
      obtain ⟨rfl, rfl, rfl⟩ := hcs
      exact reads_of_row (by simpa using hz) hl hm hcell hwz
  subst hlen
  clear hA0 hval0
  refine (walk a0 cap0 zs W hread hu hmax).mono fun e W' ⟨he, bel⟩ => ?_
  subst he
  exact ⟨_, rfl, _, _, _, [], _, [], hW', trodAll_mk1 (shut_bool Tryz.underlying4 _), (trodAll_cons_mk (Below.trod laidOut (by kernel_rfl) (of_decide_eq_true (by kernel_rfl)) k0 bel lt0) trodAll_mk0), rfl, bel.frame _, fun h => by cases h⟩

theorem over : Rows.fnGrowsRow.holds Tryz.pinned (OpenSpec.ofChange Rows.fnGrowsSpec) :=
  OpenClaim.holds_of_wide 4 Tryz.f4 rfl rfl rfl rfl rfl rfl rfl ⟨rfl, rfl, rfl, rfl, rfl⟩ rfl rfl rfl rfl rfl (by kernel_rfl) Tryz.func4 (by kernel_rfl)
    (of_decide_eq_true (by kernel_rfl)) (by unfold Func.isWrapper; first | (rw [if_pos (by decide +kernel)]; kernel_rfl) | (rw [if_neg (by decide +kernel)]; exact ⟨rfl, rfl⟩))
    (fun os started H enc _ => lifted os started H enc)

end Go.Proofs.YtolnlfnndnpiiaaGreat.fnGrows
namespace Go.Proofs.YtolnlfnndnpiiaaGreat
theorem fnGrows_holds : Rows.FnGrowsSaid := fnGrows.over
#print axioms fnGrows_holds
end Go.Proofs.YtolnlfnndnpiiaaGreat

