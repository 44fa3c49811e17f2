/-
  At every byte slice the law FnMounts returns true: what is written to the layer above is as if it were written to the tree, and comes to the same. No condition.
-/
import Derived.Test.YtebgfaohhhgdpaaGreatKMounts25
import Derived.Test.YtebgfaohhhgdpaaGreatKMounts24
import Derived.Test.YtebgfaohhhgdpaaGreatKMounts26
import Derived.ProofKit
import Derived.Deep.CutRange
import Derived.OpenShut
import Derived.ShutString
import Derived.ChangeOld
import Derived.Deep.DrawnRows
import Derived.Deep.RegionHeld3
namespace Go.Proofs.YtebgfaohhhgdpaaGreat.fnMounts
open Go.ChangeShapes Go.WideShapes Go.ChangeAt Go.RowKit Go.Maps
set_option linter.unusedVariables false
attribute [local go_sem ↓] Go.wp_at_zero Go.wp_at_succ

theorem own : ownKnob Tryz.prog.godebug = none := by kernel_rfl
theorem laidOut : laidOutB Tryz.prog = true := by kernel_rfl

theorem lwBig_no (a : Option Addr) (cap : Nat) (n : Nat) (w : World) (h : n ≤ 1048576) :
    Calls Tryz.prog 5 #[.slice a n cap] w fun e w' => e = .returned (.bool false) ∧ w' = w := by
  have hb : ¬ (1048576 : Int) < (n : Int) := by omega
  go_enter Tryz.func5, Tryz.ntmps5
  go_wp2
  go_ret
  exact ⟨ret_bool (by simp <;> omega), rfl⟩
theorem lwBig_yes (a : Option Addr) (cap : Nat) (n : Nat) (w : World) (h : 1048576 < n) (h2 : n ≤ maxLen) :
    Calls Tryz.prog 5 #[.slice a n cap] w fun e w' => e = .returned (.bool true) ∧ w' = w := by
  have hb : (1048576 : Int) < (n : Int) := by omega
  unfold maxLen at h2
  go_enter Tryz.func5, Tryz.ntmps5
  go_wp2
  go_ret
  exact ⟨ret_bool (by simp <;> omega), rfl⟩

theorem tk {P : Program} {ops : Array Oper} {Q : Exit → Act → World → Prop} {md : Region.Mode} {S : World → Prop} (i d : Nat) (v : Value) {op : Op} {ty : TypeId} {pos : String} {af : Array Edge} {gd : Option (Nat × Bool)} {fuel : Nat} {listed : Array Bool} {a : Act} {w : World} (hS : S w) (hi : ops[i]? = some { dst := some d, op := op, type := ty, pos := pos, after := af, guard := gd })
    (hs : Region.noSelect ops = true) (hf : Region.free md ops listed i = true) (hr : (Region.ready md ops listed).contains i = true) (hQ : ∀ c a w, Q (.panic c) (a.put (some d) v) w → Q (.panic c) a w) (hy : YieldsIf P ops S { dst := some d, op := op, type := ty, pos := pos, after := af, guard := gd } v a)
    (h : wpAnyH P md ops Q S fuel (listed.setIfInBounds i true) (a.put (some d) v) w) : wpAnyH P md ops Q S (fuel + 1) listed a w := wpAnyH_take hi hs hf hr hQ hy hS h
theorem face_code {A : Int} {P : Int → List En → Prop} {q rep : Int} {V : List En} (h : FaceM A P q rep V) : q = A := by
  by_cases hz : A = 0
  · rw [(h.good hz).1, hz]
  · exact (h.bad hz).1
theorem mov_code {ls : List (List En)} {U : List En} {p : Bs} {q rep : Int} {V : List En} (h : MovOf ls U p q rep V) : q = askL (ls ++ [U]) p := by
  by_cases hz : askL (ls ++ [U]) p = 0
  · rw [hz]
    by_cases hm : movR (ls ++ [U]) p = 0
    · exact (h.yes hz hm).1
    · exact (h.no hz hm).1
  · exact (h.bad hz).1
theorem rov_code {ls : List (List En)} {U : List En} {p : Bs} {q rep : Int} {V : List En} (h : RovOf ls U p q rep V) : q = askL (ls ++ [U]) p := by
  by_cases hz : askL (ls ++ [U]) p = 0
  · rw [hz]
    by_cases hm : rovR (ls ++ [U]) p = 0
    · by_cases hc : plcC (ls ++ [restP U p]) p = 0
      · exact (h.white hz hm hc).1
      · exact (h.gone hz hm hc).1
    · exact (h.no hz hm).1
  · exact (h.bad hz).1
theorem small_tree {T : List En} (h : RightT T) : T.length ≤ 40 ∧ SmallE T := ⟨(rightT_fit.1 h).2, (rightT_fit.1 h).1.fit.small⟩
theorem small_layer {V : List En} (h : Right V) : layFaultP V = 0 ∧ V.length ≤ 12 ∧ SmallE V := ⟨right_P.2 h, h.len, right_small h⟩
theorem mounts_of {ls : List (List En)} {U VA VB VC : List En} {p : Bs} {ds : List Int} {ra rb rc : Int} (hm : malC (ls ++ [U]) = 0) (ha : WovOf ls U p ds 0 ra VA) (hb : MovOf ls U p 0 rb VB) (hc : RovOf ls U p 0 rc VC) :
    ∃ (xr : Int) (X : List En) (yr : Int) (Y : List En) (zr : Int) (Z : List En), ((wrCode (malL (ls ++ [U])) p ds = 0 ∧ wrRep (malL (ls ++ [U])) p ds = xr ∧ wrList (malL (ls ++ [U])) p ds = X) ∧ (askT (malL (ls ++ [U])) p = 0 ∧ mkRep (malL (ls ++ [U])) p = yr ∧ mkList (malL (ls ++ [U])) p = Y) ∧ (remRep (malL (ls ++ [U])) p = zr ∧ remList (malL (ls ++ [U])) p = Z)) ∧
      ((ra ≠ 2 → xr ≠ 2 → ra = xr ∧ malL (ls ++ [VA]) = X) ∧ (rb ≠ 2 → yr ≠ 2 → rb = yr ∧ malL (ls ++ [VB]) = Y) ∧ (rc ≠ 2 → rc = zr ∧ malL (ls ++ [VC]) = Z)) ∧
      ((layFaultP VA = 0 ∧ VA.length ≤ 12 ∧ SmallE VA) ∧ (layFaultP VB = 0 ∧ VB.length ≤ 12 ∧ SmallE VB) ∧ (layFaultP VC = 0 ∧ VC.length ≤ 12 ∧ SmallE VC)) ∧
      ((X.length ≤ 40 ∧ SmallE X) ∧ (Y.length ≤ 40 ∧ SmallE Y) ∧ (Z.length ≤ 40 ∧ SmallE Z)) ∧ ((malL (ls ++ [U])).length ≤ 40 ∧ SmallE (malL (ls ++ [U]))) := by
  obtain ⟨-, hT, -⟩ := mal_zero hm
  have hRT := mal_tree hm
  have hz : askL (ls ++ [U]) p = 0 := (mov_code hb).symm
  obtain ⟨-, -, hp, -⟩ := parts_of hz
  obtain ⟨a1, a2⟩ := wov_all hm ha
  obtain ⟨b1, b2⟩ := mov_all hm hb
  obtain ⟨c1, c2⟩ := rov_all hm hc
  have hfc : fileCode p ds = 0 := by
    by_cases h : fileCode p ds = 0
    · exact h
    · exact absurd (ha.big hz h).1.symm h
  have hds : ¬ 24 < ds.length := by
    intro h
    rw [fileCode, if_pos hp, if_pos h] at hfc
    cases hfc
  rw [hT]
  generalize allE (ls ++ [U]) = T at *
  have hAT : askT T p = 0 := by rw [askT, if_pos (rightT_P.2 hRT)]; exact hp
  have hwc : wrCode T p ds = 0 := by rw [wrCode, if_pos hAT, if_neg hds]
  refine ⟨writeC T p, writeL T p ds, makeC T p, makeL T p, removeC T p, removeL T p, ⟨⟨hwc, by rw [wrRep, if_pos hwc], by rw [wrList, if_pos hwc]⟩, ⟨hAT, by rw [mkRep, if_pos hAT], by rw [mkList, if_pos hAT]⟩, by rw [remRep, if_pos hAT], by rw [remList, if_pos hAT]⟩, ⟨a2, b2, c2⟩, ⟨small_layer a1, small_layer b1, small_layer c1⟩, ⟨small_tree (rightT_writeL hRT hp (fileE_right hp (by omega))), small_tree (rightT_makeL hRT hp), small_tree (rightT_removeL hRT)⟩, small_tree hRT⟩
set_option maxRecDepth 100000 in
set_option maxHeartbeats 51200000 in
theorem walk (a0 : Option Addr) (cap0 : Nat) (zs : List Int) (w : World) (h : Reads .u8 w a0 zs) (hu : U8 zs) (hmax : zs.length ≤ maxLen) :
    Calls Tryz.prog 3 #[.slice a0 zs.length cap0] w fun e w' => e = .returned (.bool true) ∧ Below w.heap.size w w' := by
  have HR := hide h
  have HU := hide hu
  clear h hu
  by_cases hbig : 1048576 < zs.length
  · go_enter Tryz.func3, Tryz.ntmps3
    go_wp2_with fail
    refine (lwBig_yes _ _ _ _ hbig hmax).mono ?_
    rintro e w ⟨rfl, rfl⟩
    go_wp2_with fail
    go_ret
    exact ⟨rfl, Below.refl _ _⟩
  · go_enter Tryz.func3, Tryz.ntmps3
    go_wp2_with fail
    refine (lwBig_no _ _ _ _ (by omega)).mono ?_
    rintro e w ⟨rfl, rfl⟩
    go_wp2_with fail
    refine (drawWriteOver_any a0 cap0 zs _ HR.out HU.out (by omega)).mono ?_
    rintro e w1 ⟨ls, av, cv, n, U, ua, uc, p, da, dc, ds, rfl, rfl, hrl, hgl, hru, hgu, hpl, hdl, hdu, hdr, hdc, hb1⟩
    have h5 := hgl.1
    have h13 := hgu.1
    have RL := hide hrl
    have RU := hide hru
    have RD := hide hdr
    have HDU := hide hdu
    have HSL := hide hgl.2.1
    have HSU := hide hgu.2.1
    have HAL := hide (smallL_snoc hgl.2.1 (by omega) hgu.2.1)
    have HGD : Hid (∀ es ∈ ls ++ [U], layFault es = layFaultP es) := hide (fun es he => by
      rcases List.mem_append.1 he with he | he
      · exact (hgl.2.2 es he).2
      · simp at he; subst he; exact hgu.2.2)
    have B1 := hide hb1
    clear hrl hgl hru hgu hb1 HR HU hbig hmax hdr hdu
    have HV := implViewOver_any av cv ls.length ls ua uc U.length U w1 RL.out rfl (by omega) HSL.out RU.out rfl (by omega) HSU.out
    obtain ⟨C, hC⟩ : ∃ C, C = malC (ls ++ [U]) := ⟨_, rfl⟩
    obtain ⟨T, hT⟩ : ∃ T, T = malL (ls ++ [U]) := ⟨_, rfl⟩
    rw [← hC, ← hT] at HV
    have HC := hide hC
    have HT := hide hT
    have HVV := hide HV
    clear hC hT HV
    go_wp2_with fail
    refine HVV.out.mono ?_
    rintro r w2 ⟨ta, tc, rfl, hG2, hb2⟩
    have A2 := hide (below_alloc w2 (.cells #[.int .i64 C, .int .i64 0, .slice ta T.length tc] 29))
    have X2 := hide (Box3.new w2 (.int .i64 C) (.int .i64 0) (.slice ta T.length tc) 29)
    have BW2 := hide (below_next hb2 A2.out)
    have B2 := hide (below_next B1.out BW2.out)
    have RLn := hide (RL.out.below BW2.out)
    have RUn := hide (RU.out.below BW2.out)
    have RDn := hide (RD.out.below BW2.out)
    have RT := hide (hG2.rd.below A2.out)
    clear hG2 hb2 A2 BW2 B1 RL RU RD
    have RL := RLn
    clear RLn
    have RU := RUn
    clear RUn
    have RD := RDn
    clear RDn
    obtain ⟨⟨t0, t1, t2⟩, t3, t4, t5⟩ := X2.out
    go_wp2_with fail
    clear t0 t1 t2 t3 t4 t5
    generalize w2.alloc (.cells #[.int .i64 C, .int .i64 0, .slice ta T.length tc] 29) = W2 at *
    generalize w2.heap.size = b2 at *
    refine (implWriteOver_any av cv ls.length ls ua uc U.length U p ds da ds.length dc W2 RL.out rfl (by omega) HSL.out RU.out rfl (by omega) HSU.out hpl RD.out rfl HDU.out hdc (by omega)).mono ?_
    rintro r w3 ⟨qa, ra, VA, hoa, aa, ac, rfl, hG3, hb3⟩
    have HOA := hide hoa
    clear hoa
    have A3 := hide (below_alloc w3 (.cells #[.int .i64 qa, .int .i64 ra, .slice aa VA.length ac] 32))
    have X3 := hide (Box3.new w3 (.int .i64 qa) (.int .i64 ra) (.slice aa VA.length ac) 32)
    have BW3 := hide (below_next hb3 A3.out)
    have B3 := hide (below_next B2.out BW3.out)
    have RLn := hide (RL.out.below BW3.out)
    have RUn := hide (RU.out.below BW3.out)
    have RDn := hide (RD.out.below BW3.out)
    have RTn := hide (RT.out.below BW3.out)
    have X2n := hide (X2.out.below BW3.out)
    have RA := hide (hG3.rd.below A3.out)
    clear hG3 hb3 A3 BW3 B2 RL RU RD RT X2
    have RL := RLn
    clear RLn
    have RU := RUn
    clear RUn
    have RD := RDn
    clear RDn
    have RT := RTn
    clear RTn
    have X2 := X2n
    clear X2n
    obtain ⟨⟨t0, t1, t2⟩, t3, t4, t5⟩ := X3.out
    go_wp2_with fail
    clear t0 t1 t2 t3 t4 t5
    generalize w3.alloc (.cells #[.int .i64 qa, .int .i64 ra, .slice aa VA.length ac] 32) = W3 at *
    generalize w3.heap.size = b3 at *
    refine (implMakeOver_any av cv ls.length ls ua uc U.length U p W3 RL.out rfl (by omega) HSL.out RU.out rfl (by omega) HSU.out hpl).mono ?_
    rintro r w4 ⟨qb, rb, VB, hob, ba, bc, rfl, hG4, hb4⟩
    have HOB := hide hob
    clear hob
    have A4 := hide (below_alloc w4 (.cells #[.int .i64 qb, .int .i64 rb, .slice ba VB.length bc] 32))
    have X4 := hide (Box3.new w4 (.int .i64 qb) (.int .i64 rb) (.slice ba VB.length bc) 32)
    have BW4 := hide (below_next hb4 A4.out)
    have B4 := hide (below_next B3.out BW4.out)
    have RLn := hide (RL.out.below BW4.out)
    have RUn := hide (RU.out.below BW4.out)
    have RDn := hide (RD.out.below BW4.out)
    have RTn := hide (RT.out.below BW4.out)
    have X2n := hide (X2.out.below BW4.out)
    have RAn := hide (RA.out.below BW4.out)
    have X3n := hide (X3.out.below BW4.out)
    have RB := hide (hG4.rd.below A4.out)
    clear hG4 hb4 A4 BW4 B3 RL RU RD RT X2 RA X3
    have RL := RLn
    clear RLn
    have RU := RUn
    clear RUn
    have RD := RDn
    clear RDn
    have RT := RTn
    clear RTn
    have X2 := X2n
    clear X2n
    have RA := RAn
    clear RAn
    have X3 := X3n
    clear X3n
    obtain ⟨⟨t0, t1, t2⟩, t3, t4, t5⟩ := X4.out
    go_wp2_with fail
    clear t0 t1 t2 t3 t4 t5
    generalize w4.alloc (.cells #[.int .i64 qb, .int .i64 rb, .slice ba VB.length bc] 32) = W4 at *
    generalize w4.heap.size = b4 at *
    refine (implRemoveOver_any av cv ls.length ls ua uc U.length U p W4 RL.out rfl (by omega) HSL.out RU.out rfl (by omega) HSU.out hpl).mono ?_
    rintro r w5 ⟨qc, rc, VC, hoc, ca, cc, rfl, hG5, hb5⟩
    have HOC := hide hoc
    clear hoc
    have A5 := hide (below_alloc w5 (.cells #[.int .i64 qc, .int .i64 rc, .slice ca VC.length cc] 32))
    have X5 := hide (Box3.new w5 (.int .i64 qc) (.int .i64 rc) (.slice ca VC.length cc) 32)
    have BW5 := hide (below_next hb5 A5.out)
    have B5 := hide (below_next B4.out BW5.out)
    have RLn := hide (RL.out.below BW5.out)
    have RUn := hide (RU.out.below BW5.out)
    have RDn := hide (RD.out.below BW5.out)
    have RTn := hide (RT.out.below BW5.out)
    have X2n := hide (X2.out.below BW5.out)
    have RAn := hide (RA.out.below BW5.out)
    have X3n := hide (X3.out.below BW5.out)
    have RBn := hide (RB.out.below BW5.out)
    have X4n := hide (X4.out.below BW5.out)
    have RC := hide (hG5.rd.below A5.out)
    clear hG5 hb5 A5 BW5 B4 RL RU RD RT X2 RA X3 RB X4
    have RL := RLn
    clear RLn
    have RU := RUn
    clear RUn
    have RD := RDn
    clear RDn
    have RT := RTn
    clear RTn
    have X2 := X2n
    clear X2n
    have RA := RAn
    clear RAn
    have X3 := X3n
    clear X3n
    have RB := RBn
    clear RBn
    have X4 := X4n
    clear X4n
    obtain ⟨⟨t0, t1, t2⟩, t3, t4, t5⟩ := X5.out
    go_upto_region 8 with fail
    clear t0 t1 t2 t3 t4 t5
    generalize w5.alloc (.cells #[.int .i64 qc, .int .i64 rc, .slice ca VC.length cc] 32) = W5 at *
    generalize w5.heap.size = b5 at *
    by_cases hok : (C = 0 ∧ qa = 0) ∧ (qb = 0 ∧ qc = 0)
    · obtain ⟨⟨rfl, rfl⟩, rfl, rfl⟩ := hok
      obtain ⟨xr, X, yr, Y, zr, Z, ⟨⟨x1, x2, x3⟩, ⟨y1, y2, y3⟩, z2, z3⟩, ⟨e1, e2, e3⟩, ⟨⟨f1, f2, f3⟩, ⟨g1, g2, g3⟩, i1, i2, i3⟩, ⟨⟨j1, j2⟩, ⟨k1, k2⟩, l1, l2⟩, m1, m2⟩ := mounts_of HC.out.symm HOA.out HOB.out HOC.out
      rw [← HT.out] at x1 x2 x3 y1 y2 y3 z2 z3 m1 m2
      have HSM := hide m2
      have HXS := hide j2
      have HYS := hide k2
      have HZS := hide l2
      have HAS := hide f3
      have HBS := hide g3
      have HCS := hide i3
      have HF1 := hide f1
      have HF2 := hide g1
      have HF3 := hide i1
      have E1 := hide e1
      have E2 := hide e2
      have E3 := hide e3
      have HWT : Hid (∀ u : World, Below W5.heap.size W5 u → Calls Tryz.prog 15 #[.slice ta T.length tc, .string (str p), .slice da ds.length dc] u (ResT 0 xr X u)) := hide (fun u hu => by
        have h1 := implWriteTree_any ta tc T.length T p da dc ds u (RT.out.below hu) rfl (by omega) HSM.out hpl (RD.out.below hu) HDU.out hdc (by omega)
        rw [x1, x2, x3] at h1
        exact h1)
      have HMD : Hid (∀ u : World, Below W5.heap.size W5 u → Calls Tryz.prog 16 #[.slice ta T.length tc, .string (str p)] u (ResT 0 yr Y u)) := hide (fun u hu => by
        have h1 := implMakeDir_any ta tc T.length T p u (RT.out.below hu) rfl (by omega) HSM.out hpl
        rw [y1, y2, y3] at h1
        exact h1)
      have HRT : Hid (∀ u : World, Below W5.heap.size W5 u → Calls Tryz.prog 17 #[.slice ta T.length tc, .string (str p)] u (ResT 0 zr Z u)) := hide (fun u hu => by
        have h1 := implRemoveTree_any ta tc T.length T p u (RT.out.below hu) rfl (by omega) HSM.out hpl
        rw [y1, z2, z3] at h1
        exact h1)
      have HSW : Hid (∀ u : World, Below W5.heap.size W5 u → Calls Tryz.prog 11 #[.slice av ls.length cv, .slice ua U.length uc, .string (str p), .slice da ds.length dc] u fun r w' => ∃ xa xc, r = .returned (.agg #[.int .i64 0, .int .i64 ra, .slice xa VA.length xc]) ∧ Below u.heap.size u w') := hide (fun u hu => by
        refine (specWriteOver_any av cv ls.length ls ua uc U.length U p ds da ds.length dc u (RL.out.below hu) rfl (by omega) (RU.out.below hu) rfl HAL.out HGD.out hpl (RD.out.below hu) rfl HDU.out hdc (by omega)).mono ?_
        rintro r w' ⟨q2, rep2, V2, hf, xa, xc, rfl, -, hb⟩
        obtain ⟨rfl, rfl, rfl⟩ := wov_same HOA.out hf
        exact ⟨xa, xc, rfl, hb⟩)
      have HVW : Hid (∀ (V : List En) (va : Option Addr) (vc : Nat) (u : World), RdE u va V → V.length ≤ 12 → SmallE V → Below W5.heap.size W5 u → Calls Tryz.prog 7 #[.slice av ls.length cv, .slice va V.length vc] u fun r w' => ∃ c2 tv tc2, r = .returned (.agg #[.int .i64 c2, .int .i64 0, .slice tv (malL (ls ++ [V])).length tc2]) ∧ RdE w' tv (malL (ls ++ [V])) ∧ Below u.heap.size u w') := hide (fun V va vc u hr hl hs hu => by
        have h1 := implViewOver_any av cv ls.length ls va vc V.length V u (RL.out.below hu) rfl (by omega) HSL.out hr rfl (by omega) hs
        exact h1.mono (fun r w' ⟨tv, tc2, h2, h3, h4⟩ => ⟨_, tv, tc2, h2, h3.rd, h4⟩))
      have HSE : Hid (∀ (X : List En) (xa xb : Option Addr) (xc xd : Nat) (u : World), RdE u xa X → RdE u xb X → X.length ≤ 40 → SmallE X → Calls Tryz.prog 18 #[.slice xa X.length xc, .slice xb X.length xd] u fun r w' => r = .returned (.bool true) ∧ Below u.heap.size u w') := hide (fun X xa xb xc xd u h1 h2 hl hs => by
        have h3 := implSameLayers_any xa xb xc xd X.length X.length X X u h1 h2 rfl rfl (by omega) (by omega) hs hs
        rw [decide_eq_true rfl] at h3
        exact h3)
      have HLF : Hid (∀ (V : List En) (va : Option Addr) (vc : Nat) (u : World), RdE u va V → V.length ≤ 12 → SmallE V → layFaultP V = 0 → Calls Tryz.prog 19 #[.slice va V.length vc] u fun r w' => r = .returned (.int .i64 0) ∧ Below u.heap.size u w') := hide (fun V va vc u hr hl hs hf => by
        have h1 := implLayerFault_any va vc V.length V u hr rfl (by omega) hs
        rw [hf] at h1
        exact h1)
      clear x1 x2 x3 y1 y2 y3 z2 z3 m2 j2 k2 l2 f1 f3 g1 g3 i1 i3 e1 e2 e3 HOA HOB HOC HC HT HAL HGD HSU HSL HSM HDU RT RU RL RD
      obtain ⟨⟨q0, q1, q2⟩, -, -, -⟩ := X2.out
      obtain ⟨⟨q3, q4, q5⟩, -, -, -⟩ := X3.out
      obtain ⟨⟨q6, q7, q8⟩, -, -, -⟩ := X4.out
      obtain ⟨⟨q9, q10, q11⟩, -, -, -⟩ := X5.out
      go_wp2_with fail
      clear q0 q1 q2 q3 q4 q5 q6 q7 q8 q9 q10 q11
      refine (HWT.out W5 (Below.refl _ _)).mono ?_
      rintro r w6 ⟨xa, xc, rfl, hG6, hb6⟩
      have A6 := hide (below_alloc w6 (.cells #[.int .i64 0, .int .i64 xr, .slice xa X.length xc] 29))
      have X6 := hide (Box3.new w6 (.int .i64 0) (.int .i64 xr) (.slice xa X.length xc) 29)
      have BW6 := hide (below_next hb6 A6.out)
      have B6 := hide (below_next B5.out BW6.out)
      have X2n := hide (X2.out.below BW6.out)
      have RAn := hide (RA.out.below BW6.out)
      have X3n := hide (X3.out.below BW6.out)
      have RBn := hide (RB.out.below BW6.out)
      have X4n := hide (X4.out.below BW6.out)
      have RCn := hide (RC.out.below BW6.out)
      have X5n := hide (X5.out.below BW6.out)
      have RX := hide (hG6.rd.below A6.out)
      have BV6 := BW6
      clear hG6 hb6 A6 BW6 B5 X2 RA X3 RB X4 RC X5
      have X2 := X2n
      clear X2n
      have RA := RAn
      clear RAn
      have X3 := X3n
      clear X3n
      have RB := RBn
      clear RBn
      have X4 := X4n
      clear X4n
      have RC := RCn
      clear RCn
      have X5 := X5n
      clear X5n
      obtain ⟨⟨t0, t1, t2⟩, t3, t4, t5⟩ := X6.out
      obtain ⟨⟨q0, q1, q2⟩, -, -, -⟩ := X2.out
      go_wp2_with fail
      clear t0 t1 t2 t3 t4 t5 q0 q1 q2
      generalize w6.alloc (.cells #[.int .i64 0, .int .i64 xr, .slice xa X.length xc] 29) = W6 at *
      generalize w6.heap.size = b6 at *
      refine (HMD.out W6 BV6.out).mono ?_
      rintro r w7 ⟨ya, yc, rfl, hG7, hb7⟩
      have A7 := hide (below_alloc w7 (.cells #[.int .i64 0, .int .i64 yr, .slice ya Y.length yc] 29))
      have X7 := hide (Box3.new w7 (.int .i64 0) (.int .i64 yr) (.slice ya Y.length yc) 29)
      have BW7 := hide (below_next hb7 A7.out)
      have B7 := hide (below_next B6.out BW7.out)
      have X2n := hide (X2.out.below BW7.out)
      have RAn := hide (RA.out.below BW7.out)
      have X3n := hide (X3.out.below BW7.out)
      have RBn := hide (RB.out.below BW7.out)
      have X4n := hide (X4.out.below BW7.out)
      have RCn := hide (RC.out.below BW7.out)
      have X5n := hide (X5.out.below BW7.out)
      have RXn := hide (RX.out.below BW7.out)
      have X6n := hide (X6.out.below BW7.out)
      have RY := hide (hG7.rd.below A7.out)
      have BV7 := hide (below_next BV6.out BW7.out)
      clear hG7 hb7 A7 BW7 B6 X2 RA X3 RB X4 RC X5 RX X6
      have X2 := X2n
      clear X2n
      have RA := RAn
      clear RAn
      have X3 := X3n
      clear X3n
      have RB := RBn
      clear RBn
      have X4 := X4n
      clear X4n
      have RC := RCn
      clear RCn
      have X5 := X5n
      clear X5n
      have RX := RXn
      clear RXn
      have X6 := X6n
      clear X6n
      obtain ⟨⟨t0, t1, t2⟩, t3, t4, t5⟩ := X7.out
      obtain ⟨⟨q0, q1, q2⟩, -, -, -⟩ := X2.out
      go_wp2_with fail
      clear t0 t1 t2 t3 t4 t5 q0 q1 q2
      generalize w7.alloc (.cells #[.int .i64 0, .int .i64 yr, .slice ya Y.length yc] 29) = W7 at *
      generalize w7.heap.size = b7 at *
      refine (HRT.out W7 BV7.out).mono ?_
      rintro r w8 ⟨za, zc, rfl, hG8, hb8⟩
      have A8 := hide (below_alloc w8 (.cells #[.int .i64 0, .int .i64 zr, .slice za Z.length zc] 29))
      have X8 := hide (Box3.new w8 (.int .i64 0) (.int .i64 zr) (.slice za Z.length zc) 29)
      have BW8 := hide (below_next hb8 A8.out)
      have B8 := hide (below_next B7.out BW8.out)
      have X2n := hide (X2.out.below BW8.out)
      have RAn := hide (RA.out.below BW8.out)
      have X3n := hide (X3.out.below BW8.out)
      have RBn := hide (RB.out.below BW8.out)
      have X4n := hide (X4.out.below BW8.out)
      have RCn := hide (RC.out.below BW8.out)
      have X5n := hide (X5.out.below BW8.out)
      have RXn := hide (RX.out.below BW8.out)
      have X6n := hide (X6.out.below BW8.out)
      have RYn := hide (RY.out.below BW8.out)
      have X7n := hide (X7.out.below BW8.out)
      have RZ := hide (hG8.rd.below A8.out)
      have BV8 := hide (below_next BV7.out BW8.out)
      clear hG8 hb8 A8 BW8 B7 X2 RA X3 RB X4 RC X5 RX X6 RY X7
      have X2 := X2n
      clear X2n
      have RA := RAn
      clear RAn
      have X3 := X3n
      clear X3n
      have RB := RBn
      clear RBn
      have X4 := X4n
      clear X4n
      have RC := RCn
      clear RCn
      have X5 := X5n
      clear X5n
      have RX := RXn
      clear RXn
      have X6 := X6n
      clear X6n
      have RY := RYn
      clear RYn
      have X7 := X7n
      clear X7n
      obtain ⟨⟨t0, t1, t2⟩, t3, t4, t5⟩ := X8.out
      obtain ⟨⟨q0, q1, q2⟩, -, -, -⟩ := X2.out
      go_upto_region 13 with fail
      clear t0 t1 t2 t3 t4 t5 q0 q1 q2
      generalize w8.alloc (.cells #[.int .i64 0, .int .i64 zr, .slice za Z.length zc] 29) = W8 at *
      generalize w8.heap.size = b8 at *
      clear HWT HMD HRT BV6 BV7 X2
      have hft : ∀ (w : World) (c : Int) (v : Value), (Instr.field 29 (.agg #[.int .i64 c, .int .i64 0, v]) 2).run Tryz.prog w = .ok v w := fun _ _ _ => by kernel_rfl
      have hfm1 : ∀ (w : World) (r : Int) (v : Value), (Instr.field 32 (.agg #[.int .i64 0, .int .i64 r, v]) 1).run Tryz.prog w = .ok (.int .i64 r) w := fun _ _ _ => by kernel_rfl
      have hfm2 : ∀ (w : World) (r : Int) (v : Value), (Instr.field 32 (.agg #[.int .i64 0, .int .i64 r, v]) 2).run Tryz.prog w = .ok v w := fun _ _ _ => by kernel_rfl
      have HS0 := hide (Below.refl W8.heap.size W8)
      go_cut [133] from 108 to 133 (fun vv wc => vv = .bool false ∧ Hid (Below W8.heap.size W8 wc))
      case first =>
        have KB : Hid (∀ w' : World, Below W8.heap.size W8 w' → (w'.cell? ⟨b3, 1, none⟩ = some (.int .i64 ra) ∧ w'.cell? ⟨b3, 2, none⟩ = some (.slice aa VA.length ac)) ∧ w'.cell? ⟨b6, 1, none⟩ = some (.int .i64 xr) ∧ w'.cell? ⟨b6, 2, none⟩ = some (.slice xa X.length xc)) := hide (fun w' hb' => ⟨⟨((X3.out.below HS0.out).below hb').1.2.1, ((X3.out.below HS0.out).below hb').1.2.2⟩, ((X6.out.below HS0.out).below hb').1.2.1, ((X6.out.below HS0.out).below hb').1.2.2⟩)
        by_cases h1 : ra = 2
        · clear HVW HSE HLF HSW RA RB RC RX RY RZ X3 X4 X5 X6 X7 X8 E1 E2 E3
          subst h1
          refine wp_region_held_drew (S := fun w' => (w'.cell? ⟨b3, 1, none⟩ = some (.int .i64 2) ∧ w'.cell? ⟨b3, 2, none⟩ = some (.slice aa VA.length ac)) ∧ w'.cell? ⟨b6, 1, none⟩ = some (.int .i64 xr) ∧ w'.cell? ⟨b6, 2, none⟩ = some (.slice xa X.length xc)) (by kernel_rfl) (KB.out _ (Below.refl _ _).drew) (fun hHeld => ?_)
          change wpAnyH _ _ _ _ _ _ (Array.replicate _ false) _ _
          refine tk 0 108 (.pointer (some ⟨b3, 1, none⟩)) hHeld rfl (by kernel_rfl) (by kernel_rfl) (by kernel_rfl) (fun _ _ _ h => h) (Or.inl ⟨by rfl, ?_⟩) ?_
          · rintro w ⟨⟨q0, q1⟩, q2, q3⟩
            go_simp <;> (first | done | (intro _; omega))
          try simp only [Act.put, List.setIfInBounds_toArray, List.set_cons_zero, List.set_cons_succ]
          refine tk 1 109 (.int .i64 2) hHeld rfl (by kernel_rfl) (by kernel_rfl) (by kernel_rfl) (fun _ _ _ h => h) (Or.inl ⟨by rfl, ?_⟩) ?_
          · rintro w ⟨⟨q0, q1⟩, q2, q3⟩
            go_simp <;> (first | done | (intro _; omega))
          try simp only [Act.put, List.setIfInBounds_toArray, List.set_cons_zero, List.set_cons_succ]
          refine tk 2 110 (.bool false) hHeld rfl (by kernel_rfl) (by kernel_rfl) (by kernel_rfl) (fun _ _ _ h => h) (Or.inl ⟨by rfl, ?_⟩) ?_
          · rintro w ⟨⟨q0, q1⟩, q2, q3⟩
            go_simp <;> (first | done | (intro _; omega))
          try simp only [Act.put, List.setIfInBounds_toArray, List.set_cons_zero, List.set_cons_succ]
          refine tk 3 111 (.bool false) hHeld rfl (by kernel_rfl) (by kernel_rfl) (by kernel_rfl) (fun _ _ _ h => h) (Or.inl ⟨by rfl, ?_⟩) ?_
          · rintro w ⟨⟨q0, q1⟩, q2, q3⟩
            go_simp <;> (first | done | (intro _; omega))
          try simp only [Act.put, List.setIfInBounds_toArray, List.set_cons_zero, List.set_cons_succ]
          refine tk 4 112 undef hHeld rfl (by kernel_rfl) (by kernel_rfl) (by kernel_rfl) (fun _ _ _ h => h) (Or.inr ⟨by rfl, rfl⟩) ?_
          try simp only [Act.put, List.setIfInBounds_toArray, List.set_cons_zero, List.set_cons_succ]
          refine tk 5 113 undef hHeld rfl (by kernel_rfl) (by kernel_rfl) (by kernel_rfl) (fun _ _ _ h => h) (Or.inr ⟨by rfl, rfl⟩) ?_
          try simp only [Act.put, List.setIfInBounds_toArray, List.set_cons_zero, List.set_cons_succ]
          refine tk 6 114 undef hHeld rfl (by kernel_rfl) (by kernel_rfl) (by kernel_rfl) (fun _ _ _ h => h) (Or.inr ⟨by rfl, rfl⟩) ?_
          try simp only [Act.put, List.setIfInBounds_toArray, List.set_cons_zero, List.set_cons_succ]
          refine tk 7 115 (.bool false) hHeld rfl (by kernel_rfl) (by kernel_rfl) (by kernel_rfl) (fun _ _ _ h => h) (Or.inl ⟨by rfl, ?_⟩) ?_
          · rintro w ⟨⟨q0, q1⟩, q2, q3⟩
            go_simp <;> (first | done | (intro _; omega))
          try simp only [Act.put, List.setIfInBounds_toArray, List.set_cons_zero, List.set_cons_succ]
          refine tk 8 116 (.bool false) hHeld rfl (by kernel_rfl) (by kernel_rfl) (by kernel_rfl) (fun _ _ _ h => h) (Or.inl ⟨by rfl, ?_⟩) ?_
          · rintro w ⟨⟨q0, q1⟩, q2, q3⟩
            go_simp <;> (first | done | (intro _; omega))
          try simp only [Act.put, List.setIfInBounds_toArray, List.set_cons_zero, List.set_cons_succ]
          refine tk 9 117 undef hHeld rfl (by kernel_rfl) (by kernel_rfl) (by kernel_rfl) (fun _ _ _ h => h) (Or.inr ⟨by rfl, rfl⟩) ?_
          try simp only [Act.put, List.setIfInBounds_toArray, List.set_cons_zero, List.set_cons_succ]
          refine tk 10 118 undef hHeld rfl (by kernel_rfl) (by kernel_rfl) (by kernel_rfl) (fun _ _ _ h => h) (Or.inr ⟨by rfl, rfl⟩) ?_
          try simp only [Act.put, List.setIfInBounds_toArray, List.set_cons_zero, List.set_cons_succ]
          refine tk 11 119 undef hHeld rfl (by kernel_rfl) (by kernel_rfl) (by kernel_rfl) (fun _ _ _ h => h) (Or.inr ⟨by rfl, rfl⟩) ?_
          try simp only [Act.put, List.setIfInBounds_toArray, List.set_cons_zero, List.set_cons_succ]
          refine tk 12 120 undef hHeld rfl (by kernel_rfl) (by kernel_rfl) (by kernel_rfl) (fun _ _ _ h => h) (Or.inr ⟨by rfl, rfl⟩) ?_
          try simp only [Act.put, List.setIfInBounds_toArray, List.set_cons_zero, List.set_cons_succ]
          refine tk 13 121 undef hHeld rfl (by kernel_rfl) (by kernel_rfl) (by kernel_rfl) (fun _ _ _ h => h) (Or.inr ⟨by rfl, rfl⟩) ?_
          try simp only [Act.put, List.setIfInBounds_toArray, List.set_cons_zero, List.set_cons_succ]
          refine tk 14 122 undef hHeld rfl (by kernel_rfl) (by kernel_rfl) (by kernel_rfl) (fun _ _ _ h => h) (Or.inr ⟨by rfl, rfl⟩) ?_
          try simp only [Act.put, List.setIfInBounds_toArray, List.set_cons_zero, List.set_cons_succ]
          refine tk 15 123 undef hHeld rfl (by kernel_rfl) (by kernel_rfl) (by kernel_rfl) (fun _ _ _ h => h) (Or.inr ⟨by rfl, rfl⟩) ?_
          try simp only [Act.put, List.setIfInBounds_toArray, List.set_cons_zero, List.set_cons_succ]
          refine tk 16 124 undef hHeld rfl (by kernel_rfl) (by kernel_rfl) (by kernel_rfl) (fun _ _ _ h => h) (Or.inr ⟨by rfl, rfl⟩) ?_
          try simp only [Act.put, List.setIfInBounds_toArray, List.set_cons_zero, List.set_cons_succ]
          refine tk 17 125 undef hHeld rfl (by kernel_rfl) (by kernel_rfl) (by kernel_rfl) (fun _ _ _ h => h) (Or.inr ⟨by rfl, rfl⟩) ?_
          try simp only [Act.put, List.setIfInBounds_toArray, List.set_cons_zero, List.set_cons_succ]
          refine tk 18 126 undef hHeld rfl (by kernel_rfl) (by kernel_rfl) (by kernel_rfl) (fun _ _ _ h => h) (Or.inr ⟨by rfl, rfl⟩) ?_
          try simp only [Act.put, List.setIfInBounds_toArray, List.set_cons_zero, List.set_cons_succ]
          refine tk 19 127 undef hHeld rfl (by kernel_rfl) (by kernel_rfl) (by kernel_rfl) (fun _ _ _ h => h) (Or.inr ⟨by rfl, rfl⟩) ?_
          try simp only [Act.put, List.setIfInBounds_toArray, List.set_cons_zero, List.set_cons_succ]
          refine tk 20 128 undef hHeld rfl (by kernel_rfl) (by kernel_rfl) (by kernel_rfl) (fun _ _ _ h => h) (Or.inr ⟨by rfl, rfl⟩) ?_
          try simp only [Act.put, List.setIfInBounds_toArray, List.set_cons_zero, List.set_cons_succ]
          refine tk 21 129 undef hHeld rfl (by kernel_rfl) (by kernel_rfl) (by kernel_rfl) (fun _ _ _ h => h) (Or.inr ⟨by rfl, rfl⟩) ?_
          try simp only [Act.put, List.setIfInBounds_toArray, List.set_cons_zero, List.set_cons_succ]
          refine tk 22 130 undef hHeld rfl (by kernel_rfl) (by kernel_rfl) (by kernel_rfl) (fun _ _ _ h => h) (Or.inr ⟨by rfl, rfl⟩) ?_
          try simp only [Act.put, List.setIfInBounds_toArray, List.set_cons_zero, List.set_cons_succ]
          refine tk 23 131 undef hHeld rfl (by kernel_rfl) (by kernel_rfl) (by kernel_rfl) (fun _ _ _ h => h) (Or.inr ⟨by rfl, rfl⟩) ?_
          try simp only [Act.put, List.setIfInBounds_toArray, List.set_cons_zero, List.set_cons_succ]
          refine tk 24 132 undef hHeld rfl (by kernel_rfl) (by kernel_rfl) (by kernel_rfl) (fun _ _ _ h => h) (Or.inr ⟨by rfl, rfl⟩) ?_
          try simp only [Act.put, List.setIfInBounds_toArray, List.set_cons_zero, List.set_cons_succ]
          refine tk 25 133 (.bool false) hHeld rfl (by kernel_rfl) (by kernel_rfl) (by kernel_rfl) (fun _ _ _ h => h) (Or.inl ⟨by rfl, ?_⟩) ?_
          · rintro w ⟨⟨q0, q1⟩, q2, q3⟩
            go_simp <;> (first | done | (intro _; omega))
          try simp only [Act.put, List.setIfInBounds_toArray, List.set_cons_zero, List.set_cons_succ]
          refine wpAnyH_done (by kernel_rfl) ?_ _
          go_wp2_with fail
          go_meet
          case rel => exact ⟨rfl, hide ((Below.refl _ _).drew)⟩
        · by_cases h2 : xr = 2
          · have hn1 : (ra != 2) = true := by simpa using h1
            clear HVW HSE HLF HSW RA RB RC RX RY RZ X3 X4 X5 X6 X7 X8 E1 E2 E3
            subst h2
            refine wp_region_held_drew (S := fun w' => (w'.cell? ⟨b3, 1, none⟩ = some (.int .i64 ra) ∧ w'.cell? ⟨b3, 2, none⟩ = some (.slice aa VA.length ac)) ∧ w'.cell? ⟨b6, 1, none⟩ = some (.int .i64 2) ∧ w'.cell? ⟨b6, 2, none⟩ = some (.slice xa X.length xc)) (by kernel_rfl) (KB.out _ (Below.refl _ _).drew) (fun hHeld => ?_)
            change wpAnyH _ _ _ _ _ _ (Array.replicate _ false) _ _
            refine tk 0 108 (.pointer (some ⟨b3, 1, none⟩)) hHeld rfl (by kernel_rfl) (by kernel_rfl) (by kernel_rfl) (fun _ _ _ h => h) (Or.inl ⟨by rfl, ?_⟩) ?_
            · rintro w ⟨⟨q0, q1⟩, q2, q3⟩
              go_simp <;> (first | done | (intro _; omega))
            try simp only [Act.put, List.setIfInBounds_toArray, List.set_cons_zero, List.set_cons_succ]
            refine tk 1 109 (.int .i64 ra) hHeld rfl (by kernel_rfl) (by kernel_rfl) (by kernel_rfl) (fun _ _ _ h => h) (Or.inl ⟨by rfl, ?_⟩) ?_
            · rintro w ⟨⟨q0, q1⟩, q2, q3⟩
              go_simp <;> (first | done | (intro _; omega))
            try simp only [Act.put, List.setIfInBounds_toArray, List.set_cons_zero, List.set_cons_succ]
            refine tk 2 110 (.bool true) hHeld rfl (by kernel_rfl) (by kernel_rfl) (by kernel_rfl) (fun _ _ _ h => h) (Or.inl ⟨by rfl, ?_⟩) ?_
            · rintro w ⟨⟨q0, q1⟩, q2, q3⟩
              go_simp <;> (first | done | (intro _; omega))
            try simp only [Act.put, List.setIfInBounds_toArray, List.set_cons_zero, List.set_cons_succ]
            refine tk 3 111 (.bool true) hHeld rfl (by kernel_rfl) (by kernel_rfl) (by kernel_rfl) (fun _ _ _ h => h) (Or.inl ⟨by rfl, ?_⟩) ?_
            · rintro w ⟨⟨q0, q1⟩, q2, q3⟩
              go_simp <;> (first | done | (intro _; omega))
            try simp only [Act.put, List.setIfInBounds_toArray, List.set_cons_zero, List.set_cons_succ]
            refine tk 4 112 (.pointer (some ⟨b6, 1, none⟩)) hHeld rfl (by kernel_rfl) (by kernel_rfl) (by kernel_rfl) (fun _ _ _ h => h) (Or.inl ⟨by rfl, ?_⟩) ?_
            · rintro w ⟨⟨q0, q1⟩, q2, q3⟩
              go_simp <;> (first | done | (intro _; omega))
            try simp only [Act.put, List.setIfInBounds_toArray, List.set_cons_zero, List.set_cons_succ]
            refine tk 5 113 (.int .i64 2) hHeld rfl (by kernel_rfl) (by kernel_rfl) (by kernel_rfl) (fun _ _ _ h => h) (Or.inl ⟨by rfl, ?_⟩) ?_
            · rintro w ⟨⟨q0, q1⟩, q2, q3⟩
              go_simp <;> (first | done | (intro _; omega))
            try simp only [Act.put, List.setIfInBounds_toArray, List.set_cons_zero, List.set_cons_succ]
            refine tk 6 114 (.bool false) hHeld rfl (by kernel_rfl) (by kernel_rfl) (by kernel_rfl) (fun _ _ _ h => h) (Or.inl ⟨by rfl, ?_⟩) ?_
            · rintro w ⟨⟨q0, q1⟩, q2, q3⟩
              go_simp <;> (first | done | (intro _; omega))
            try simp only [Act.put, List.setIfInBounds_toArray, List.set_cons_zero, List.set_cons_succ]
            refine tk 7 115 (.bool false) hHeld rfl (by kernel_rfl) (by kernel_rfl) (by kernel_rfl) (fun _ _ _ h => h) (Or.inl ⟨by rfl, ?_⟩) ?_
            · rintro w ⟨⟨q0, q1⟩, q2, q3⟩
              go_simp <;> (first | done | (intro _; omega))
            try simp only [Act.put, List.setIfInBounds_toArray, List.set_cons_zero, List.set_cons_succ]
            refine tk 8 116 (.bool false) hHeld rfl (by kernel_rfl) (by kernel_rfl) (by kernel_rfl) (fun _ _ _ h => h) (Or.inl ⟨by rfl, ?_⟩) ?_
            · rintro w ⟨⟨q0, q1⟩, q2, q3⟩
              go_simp <;> (first | done | (intro _; omega))
            try simp only [Act.put, List.setIfInBounds_toArray, List.set_cons_zero, List.set_cons_succ]
            refine tk 9 117 undef hHeld rfl (by kernel_rfl) (by kernel_rfl) (by kernel_rfl) (fun _ _ _ h => h) (Or.inr ⟨by rfl, rfl⟩) ?_
            try simp only [Act.put, List.setIfInBounds_toArray, List.set_cons_zero, List.set_cons_succ]
            refine tk 10 118 undef hHeld rfl (by kernel_rfl) (by kernel_rfl) (by kernel_rfl) (fun _ _ _ h => h) (Or.inr ⟨by rfl, rfl⟩) ?_
            try simp only [Act.put, List.setIfInBounds_toArray, List.set_cons_zero, List.set_cons_succ]
            refine tk 11 119 undef hHeld rfl (by kernel_rfl) (by kernel_rfl) (by kernel_rfl) (fun _ _ _ h => h) (Or.inr ⟨by rfl, rfl⟩) ?_
            try simp only [Act.put, List.setIfInBounds_toArray, List.set_cons_zero, List.set_cons_succ]
            refine tk 12 120 undef hHeld rfl (by kernel_rfl) (by kernel_rfl) (by kernel_rfl) (fun _ _ _ h => h) (Or.inr ⟨by rfl, rfl⟩) ?_
            try simp only [Act.put, List.setIfInBounds_toArray, List.set_cons_zero, List.set_cons_succ]
            refine tk 13 121 undef hHeld rfl (by kernel_rfl) (by kernel_rfl) (by kernel_rfl) (fun _ _ _ h => h) (Or.inr ⟨by rfl, rfl⟩) ?_
            try simp only [Act.put, List.setIfInBounds_toArray, List.set_cons_zero, List.set_cons_succ]
            refine tk 14 122 undef hHeld rfl (by kernel_rfl) (by kernel_rfl) (by kernel_rfl) (fun _ _ _ h => h) (Or.inr ⟨by rfl, rfl⟩) ?_
            try simp only [Act.put, List.setIfInBounds_toArray, List.set_cons_zero, List.set_cons_succ]
            refine tk 15 123 undef hHeld rfl (by kernel_rfl) (by kernel_rfl) (by kernel_rfl) (fun _ _ _ h => h) (Or.inr ⟨by rfl, rfl⟩) ?_
            try simp only [Act.put, List.setIfInBounds_toArray, List.set_cons_zero, List.set_cons_succ]
            refine tk 16 124 undef hHeld rfl (by kernel_rfl) (by kernel_rfl) (by kernel_rfl) (fun _ _ _ h => h) (Or.inr ⟨by rfl, rfl⟩) ?_
            try simp only [Act.put, List.setIfInBounds_toArray, List.set_cons_zero, List.set_cons_succ]
            refine tk 17 125 undef hHeld rfl (by kernel_rfl) (by kernel_rfl) (by kernel_rfl) (fun _ _ _ h => h) (Or.inr ⟨by rfl, rfl⟩) ?_
            try simp only [Act.put, List.setIfInBounds_toArray, List.set_cons_zero, List.set_cons_succ]
            refine tk 18 126 undef hHeld rfl (by kernel_rfl) (by kernel_rfl) (by kernel_rfl) (fun _ _ _ h => h) (Or.inr ⟨by rfl, rfl⟩) ?_
            try simp only [Act.put, List.setIfInBounds_toArray, List.set_cons_zero, List.set_cons_succ]
            refine tk 19 127 undef hHeld rfl (by kernel_rfl) (by kernel_rfl) (by kernel_rfl) (fun _ _ _ h => h) (Or.inr ⟨by rfl, rfl⟩) ?_
            try simp only [Act.put, List.setIfInBounds_toArray, List.set_cons_zero, List.set_cons_succ]
            refine tk 20 128 undef hHeld rfl (by kernel_rfl) (by kernel_rfl) (by kernel_rfl) (fun _ _ _ h => h) (Or.inr ⟨by rfl, rfl⟩) ?_
            try simp only [Act.put, List.setIfInBounds_toArray, List.set_cons_zero, List.set_cons_succ]
            refine tk 21 129 undef hHeld rfl (by kernel_rfl) (by kernel_rfl) (by kernel_rfl) (fun _ _ _ h => h) (Or.inr ⟨by rfl, rfl⟩) ?_
            try simp only [Act.put, List.setIfInBounds_toArray, List.set_cons_zero, List.set_cons_succ]
            refine tk 22 130 undef hHeld rfl (by kernel_rfl) (by kernel_rfl) (by kernel_rfl) (fun _ _ _ h => h) (Or.inr ⟨by rfl, rfl⟩) ?_
            try simp only [Act.put, List.setIfInBounds_toArray, List.set_cons_zero, List.set_cons_succ]
            refine tk 23 131 undef hHeld rfl (by kernel_rfl) (by kernel_rfl) (by kernel_rfl) (fun _ _ _ h => h) (Or.inr ⟨by rfl, rfl⟩) ?_
            try simp only [Act.put, List.setIfInBounds_toArray, List.set_cons_zero, List.set_cons_succ]
            refine tk 24 132 undef hHeld rfl (by kernel_rfl) (by kernel_rfl) (by kernel_rfl) (fun _ _ _ h => h) (Or.inr ⟨by rfl, rfl⟩) ?_
            try simp only [Act.put, List.setIfInBounds_toArray, List.set_cons_zero, List.set_cons_succ]
            refine tk 25 133 (.bool false) hHeld rfl (by kernel_rfl) (by kernel_rfl) (by kernel_rfl) (fun _ _ _ h => h) (Or.inl ⟨by rfl, ?_⟩) ?_
            · rintro w ⟨⟨q0, q1⟩, q2, q3⟩
              go_simp <;> (first | done | (intro _; omega))
            try simp only [Act.put, List.setIfInBounds_toArray, List.set_cons_zero, List.set_cons_succ]
            refine wpAnyH_done (by kernel_rfl) ?_ _
            go_wp2_with fail
            go_meet
            case rel => exact ⟨rfl, hide ((Below.refl _ _).drew)⟩
          · obtain ⟨e1, e2⟩ := E1.out h1 h2
            subst e1
            have hn1 : (ra != 2) = true := by simpa using h1
            have hn2 : (ra != ra) = false := by simp
            have HVV : Hid (∀ u : World, Below W8.heap.size W8 u → Calls Tryz.prog 7 #[.slice av ls.length cv, .slice aa VA.length ac] u fun r w' => ∃ c2 tv tc2, r = .returned (.agg #[.int .i64 c2, .int .i64 0, .slice tv X.length tc2]) ∧ RdE w' tv X ∧ Below u.heap.size u w') := hide (fun u hu => by
              have h3 := HVW.out VA aa ac u ((RA.out.below HS0.out).below hu) f2 HAS.out (below_next BV8.out (below_next HS0.out hu))
              rw [e2] at h3
              exact h3)
            have RX' := hide (RX.out.below HS0.out)
            clear RX
            have RX := RX'
            clear RX' HVW HLF HSW E1 E2 E3 e2
            refine wp_region_held_drew (S := fun w' => (w'.cell? ⟨b3, 1, none⟩ = some (.int .i64 ra) ∧ w'.cell? ⟨b3, 2, none⟩ = some (.slice aa VA.length ac)) ∧ w'.cell? ⟨b6, 1, none⟩ = some (.int .i64 ra) ∧ w'.cell? ⟨b6, 2, none⟩ = some (.slice xa X.length xc)) (by kernel_rfl) (KB.out _ (Below.refl _ _).drew) (fun hHeld => ?_)
            change wpAnyH _ _ _ _ _ _ (Array.replicate _ false) _ _
            refine tk 0 108 (.pointer (some ⟨b3, 1, none⟩)) hHeld rfl (by kernel_rfl) (by kernel_rfl) (by kernel_rfl) (fun _ _ _ h => h) (Or.inl ⟨by rfl, ?_⟩) ?_
            · rintro w ⟨⟨q0, q1⟩, q2, q3⟩
              go_simp <;> (first | done | (intro _; omega))
            try simp only [Act.put, List.setIfInBounds_toArray, List.set_cons_zero, List.set_cons_succ]
            refine tk 1 109 (.int .i64 ra) hHeld rfl (by kernel_rfl) (by kernel_rfl) (by kernel_rfl) (fun _ _ _ h => h) (Or.inl ⟨by rfl, ?_⟩) ?_
            · rintro w ⟨⟨q0, q1⟩, q2, q3⟩
              go_simp <;> (first | done | (intro _; omega))
            try simp only [Act.put, List.setIfInBounds_toArray, List.set_cons_zero, List.set_cons_succ]
            refine tk 2 110 (.bool true) hHeld rfl (by kernel_rfl) (by kernel_rfl) (by kernel_rfl) (fun _ _ _ h => h) (Or.inl ⟨by rfl, ?_⟩) ?_
            · rintro w ⟨⟨q0, q1⟩, q2, q3⟩
              go_simp <;> (first | done | (intro _; omega))
            try simp only [Act.put, List.setIfInBounds_toArray, List.set_cons_zero, List.set_cons_succ]
            refine tk 3 111 (.bool true) hHeld rfl (by kernel_rfl) (by kernel_rfl) (by kernel_rfl) (fun _ _ _ h => h) (Or.inl ⟨by rfl, ?_⟩) ?_
            · rintro w ⟨⟨q0, q1⟩, q2, q3⟩
              go_simp <;> (first | done | (intro _; omega))
            try simp only [Act.put, List.setIfInBounds_toArray, List.set_cons_zero, List.set_cons_succ]
            refine tk 4 112 (.pointer (some ⟨b6, 1, none⟩)) hHeld rfl (by kernel_rfl) (by kernel_rfl) (by kernel_rfl) (fun _ _ _ h => h) (Or.inl ⟨by rfl, ?_⟩) ?_
            · rintro w ⟨⟨q0, q1⟩, q2, q3⟩
              go_simp <;> (first | done | (intro _; omega))
            try simp only [Act.put, List.setIfInBounds_toArray, List.set_cons_zero, List.set_cons_succ]
            refine tk 5 113 (.int .i64 ra) hHeld rfl (by kernel_rfl) (by kernel_rfl) (by kernel_rfl) (fun _ _ _ h => h) (Or.inl ⟨by rfl, ?_⟩) ?_
            · rintro w ⟨⟨q0, q1⟩, q2, q3⟩
              go_simp <;> (first | done | (intro _; omega))
            try simp only [Act.put, List.setIfInBounds_toArray, List.set_cons_zero, List.set_cons_succ]
            refine tk 6 114 (.bool true) hHeld rfl (by kernel_rfl) (by kernel_rfl) (by kernel_rfl) (fun _ _ _ h => h) (Or.inl ⟨by rfl, ?_⟩) ?_
            · rintro w ⟨⟨q0, q1⟩, q2, q3⟩
              go_simp <;> (first | done | (intro _; omega))
            try simp only [Act.put, List.setIfInBounds_toArray, List.set_cons_zero, List.set_cons_succ]
            refine tk 7 115 (.bool true) hHeld rfl (by kernel_rfl) (by kernel_rfl) (by kernel_rfl) (fun _ _ _ h => h) (Or.inl ⟨by rfl, ?_⟩) ?_
            · rintro w ⟨⟨q0, q1⟩, q2, q3⟩
              go_simp <;> (first | done | (intro _; omega))
            try simp only [Act.put, List.setIfInBounds_toArray, List.set_cons_zero, List.set_cons_succ]
            refine tk 8 116 (.bool true) hHeld rfl (by kernel_rfl) (by kernel_rfl) (by kernel_rfl) (fun _ _ _ h => h) (Or.inl ⟨by rfl, ?_⟩) ?_
            · rintro w ⟨⟨q0, q1⟩, q2, q3⟩
              go_simp <;> (first | done | (intro _; omega))
            try simp only [Act.put, List.setIfInBounds_toArray, List.set_cons_zero, List.set_cons_succ]
            refine tk 9 117 (.pointer (some ⟨b3, 1, none⟩)) hHeld rfl (by kernel_rfl) (by kernel_rfl) (by kernel_rfl) (fun _ _ _ h => h) (Or.inl ⟨by rfl, ?_⟩) ?_
            · rintro w ⟨⟨q0, q1⟩, q2, q3⟩
              go_simp <;> (first | done | (intro _; omega))
            try simp only [Act.put, List.setIfInBounds_toArray, List.set_cons_zero, List.set_cons_succ]
            refine tk 10 118 (.int .i64 ra) hHeld rfl (by kernel_rfl) (by kernel_rfl) (by kernel_rfl) (fun _ _ _ h => h) (Or.inl ⟨by rfl, ?_⟩) ?_
            · rintro w ⟨⟨q0, q1⟩, q2, q3⟩
              go_simp <;> (first | done | (intro _; omega))
            try simp only [Act.put, List.setIfInBounds_toArray, List.set_cons_zero, List.set_cons_succ]
            refine tk 11 119 (.pointer (some ⟨b6, 1, none⟩)) hHeld rfl (by kernel_rfl) (by kernel_rfl) (by kernel_rfl) (fun _ _ _ h => h) (Or.inl ⟨by rfl, ?_⟩) ?_
            · rintro w ⟨⟨q0, q1⟩, q2, q3⟩
              go_simp <;> (first | done | (intro _; omega))
            try simp only [Act.put, List.setIfInBounds_toArray, List.set_cons_zero, List.set_cons_succ]
            refine tk 12 120 (.int .i64 ra) hHeld rfl (by kernel_rfl) (by kernel_rfl) (by kernel_rfl) (fun _ _ _ h => h) (Or.inl ⟨by rfl, ?_⟩) ?_
            · rintro w ⟨⟨q0, q1⟩, q2, q3⟩
              go_simp <;> (first | done | (intro _; omega))
            try simp only [Act.put, List.setIfInBounds_toArray, List.set_cons_zero, List.set_cons_succ]
            refine tk 13 121 (.bool false) hHeld rfl (by kernel_rfl) (by kernel_rfl) (by kernel_rfl) (fun _ _ _ h => h) (Or.inl ⟨by rfl, ?_⟩) ?_
            · rintro w ⟨⟨q0, q1⟩, q2, q3⟩
              go_simp <;> (first | done | (intro _; omega))
            try simp only [Act.put, List.setIfInBounds_toArray, List.set_cons_zero, List.set_cons_succ]
            refine tk 14 122 (.bool false) hHeld rfl (by kernel_rfl) (by kernel_rfl) (by kernel_rfl) (fun _ _ _ h => h) (Or.inl ⟨by rfl, ?_⟩) ?_
            · rintro w ⟨⟨q0, q1⟩, q2, q3⟩
              go_simp <;> (first | done | (intro _; omega))
            try simp only [Act.put, List.setIfInBounds_toArray, List.set_cons_zero, List.set_cons_succ]
            refine tk 15 123 (.slice av ls.length cv) hHeld rfl (by kernel_rfl) (by kernel_rfl) (by kernel_rfl) (fun _ _ _ h => h) (Or.inl ⟨by rfl, ?_⟩) ?_
            · rintro w ⟨⟨q0, q1⟩, q2, q3⟩
              go_simp <;> (first | done | (intro _; omega))
            try simp only [Act.put, List.setIfInBounds_toArray, List.set_cons_zero, List.set_cons_succ]
            refine tk 16 124 (.pointer (some ⟨b3, 2, none⟩)) hHeld rfl (by kernel_rfl) (by kernel_rfl) (by kernel_rfl) (fun _ _ _ h => h) (Or.inl ⟨by rfl, ?_⟩) ?_
            · rintro w ⟨⟨q0, q1⟩, q2, q3⟩
              go_simp <;> (first | done | (intro _; omega))
            try simp only [Act.put, List.setIfInBounds_toArray, List.set_cons_zero, List.set_cons_succ]
            refine tk 17 125 (.slice aa VA.length ac) hHeld rfl (by kernel_rfl) (by kernel_rfl) (by kernel_rfl) (fun _ _ _ h => h) (Or.inl ⟨by rfl, ?_⟩) ?_
            · rintro w ⟨⟨q0, q1⟩, q2, q3⟩
              go_simp <;> (first | done | (intro _; omega))
            try simp only [Act.put, List.setIfInBounds_toArray, List.set_cons_zero, List.set_cons_succ]
            refine tk 20 128 (.pointer (some ⟨b6, 2, none⟩)) hHeld rfl (by kernel_rfl) (by kernel_rfl) (by kernel_rfl) (fun _ _ _ h => h) (Or.inl ⟨by rfl, ?_⟩) ?_
            · rintro w ⟨⟨q0, q1⟩, q2, q3⟩
              go_simp <;> (first | done | (intro _; omega))
            try simp only [Act.put, List.setIfInBounds_toArray, List.set_cons_zero, List.set_cons_succ]
            refine tk 21 129 (.slice xa X.length xc) hHeld rfl (by kernel_rfl) (by kernel_rfl) (by kernel_rfl) (fun _ _ _ h => h) (Or.inl ⟨by rfl, ?_⟩) ?_
            · rintro w ⟨⟨q0, q1⟩, q2, q3⟩
              go_simp <;> (first | done | (intro _; omega))
            try simp only [Act.put, List.setIfInBounds_toArray, List.set_cons_zero, List.set_cons_succ]
            refine wpAnyH_ready (rs := [18]) (by kernel_rfl) (by simp) ?_
            refine AllReadyH.cons rfl (fun K hK => ?_) AllReadyH.nil
            go_simp
            refine (HVV.out _ (Below.refl _ _).drew).mono ?_
            rintro r w9 ⟨c2, tv, tc2, rfl, hr9, hb9⟩
            have BB1 := hide ((Below.refl W8.heap.size W8).drew.trans hb9)
            have RT9 := hide hr9
            clear hr9 hb9
            go_wp2_with fail
            refine hK.out _ _ (KB.out _ BB1.out) (fun hHeld => ?_)
            clear hK K
            try simp only [Act.put, List.setIfInBounds_toArray, List.set_cons_zero, List.set_cons_succ]
            refine tk 19 127 (.slice tv X.length tc2) hHeld rfl (by kernel_rfl) (by kernel_rfl) (by kernel_rfl) (fun _ _ _ h => h) (Or.inl ⟨by rfl, ?_⟩) ?_
            · rintro w ⟨⟨q0, q1⟩, q2, q3⟩
              go_simp <;> (first | done | (intro _; omega))
            try simp only [Act.put, List.setIfInBounds_toArray, List.set_cons_zero, List.set_cons_succ]
            refine wpAnyH_ready (rs := [22]) (by kernel_rfl) (by simp) ?_
            refine AllReadyH.cons rfl (fun K hK => ?_) AllReadyH.nil
            go_simp
            refine (HSE.out X tv xa tc2 xc _ RT9.out (RX.out.below BB1.out) j1 HXS.out).mono ?_
            rintro r w10 ⟨rfl, hb10⟩
            have BB2 := hide (below_next BB1.out hb10)
            clear hb10
            go_wp2_with fail
            refine hK.out _ _ (KB.out _ BB2.out) (fun hHeld => ?_)
            clear hK K
            try simp only [Act.put, List.setIfInBounds_toArray, List.set_cons_zero, List.set_cons_succ]
            refine tk 23 131 (.bool false) hHeld rfl (by kernel_rfl) (by kernel_rfl) (by kernel_rfl) (fun _ _ _ h => h) (Or.inl ⟨by rfl, ?_⟩) ?_
            · rintro w ⟨⟨q0, q1⟩, q2, q3⟩
              go_simp <;> (first | done | (intro _; omega))
            try simp only [Act.put, List.setIfInBounds_toArray, List.set_cons_zero, List.set_cons_succ]
            refine tk 24 132 (.bool false) hHeld rfl (by kernel_rfl) (by kernel_rfl) (by kernel_rfl) (fun _ _ _ h => h) (Or.inl ⟨by rfl, ?_⟩) ?_
            · rintro w ⟨⟨q0, q1⟩, q2, q3⟩
              go_simp <;> (first | done | (intro _; omega))
            try simp only [Act.put, List.setIfInBounds_toArray, List.set_cons_zero, List.set_cons_succ]
            refine tk 25 133 (.bool false) hHeld rfl (by kernel_rfl) (by kernel_rfl) (by kernel_rfl) (fun _ _ _ h => h) (Or.inl ⟨by rfl, ?_⟩) ?_
            · rintro w ⟨⟨q0, q1⟩, q2, q3⟩
              go_simp <;> (first | done | (intro _; omega))
            try simp only [Act.put, List.setIfInBounds_toArray, List.set_cons_zero, List.set_cons_succ]
            refine wpAnyH_done (by kernel_rfl) ?_ _
            go_wp2_with fail
            go_meet
            case rel => exact ⟨rfl, hide (BB2.out)⟩
      case rest =>
        obtain ⟨rfl, HQ1⟩ := hcut
        have HS1 := hide (below_next HS0.out HQ1.out)
        clear HQ1
        obtain ⟨WC1, hwc⟩ : ∃ x, x = wc := ⟨_, rfl⟩
        subst hwc
        go_upto_region 15 with fail
        go_cut [159] from 134 to 159 (fun vv wc => vv = .bool false ∧ Hid (Below WC1.heap.size WC1 wc))
        case first =>
          have KB : Hid (∀ w' : World, Below WC1.heap.size WC1 w' → (w'.cell? ⟨b4, 1, none⟩ = some (.int .i64 rb) ∧ w'.cell? ⟨b4, 2, none⟩ = some (.slice ba VB.length bc)) ∧ w'.cell? ⟨b7, 1, none⟩ = some (.int .i64 yr) ∧ w'.cell? ⟨b7, 2, none⟩ = some (.slice ya Y.length yc)) := hide (fun w' hb' => ⟨⟨((X4.out.below HS1.out).below hb').1.2.1, ((X4.out.below HS1.out).below hb').1.2.2⟩, ((X7.out.below HS1.out).below hb').1.2.1, ((X7.out.below HS1.out).below hb').1.2.2⟩)
          by_cases h1 : rb = 2
          · clear HVW HSE HLF HSW RA RB RC RX RY RZ X3 X4 X5 X6 X7 X8 E1 E2 E3
            subst h1
            refine wp_region_held_drew (S := fun w' => (w'.cell? ⟨b4, 1, none⟩ = some (.int .i64 2) ∧ w'.cell? ⟨b4, 2, none⟩ = some (.slice ba VB.length bc)) ∧ w'.cell? ⟨b7, 1, none⟩ = some (.int .i64 yr) ∧ w'.cell? ⟨b7, 2, none⟩ = some (.slice ya Y.length yc)) (by kernel_rfl) (KB.out _ (Below.refl _ _).drew) (fun hHeld => ?_)
            change wpAnyH _ _ _ _ _ _ (Array.replicate _ false) _ _
            refine tk 0 134 (.pointer (some ⟨b4, 1, none⟩)) hHeld rfl (by kernel_rfl) (by kernel_rfl) (by kernel_rfl) (fun _ _ _ h => h) (Or.inl ⟨by rfl, ?_⟩) ?_
            · rintro w ⟨⟨q0, q1⟩, q2, q3⟩
              go_simp <;> (first | done | (intro _; omega))
            try simp only [Act.put, List.setIfInBounds_toArray, List.set_cons_zero, List.set_cons_succ]
            refine tk 1 135 (.int .i64 2) hHeld rfl (by kernel_rfl) (by kernel_rfl) (by kernel_rfl) (fun _ _ _ h => h) (Or.inl ⟨by rfl, ?_⟩) ?_
            · rintro w ⟨⟨q0, q1⟩, q2, q3⟩
              go_simp <;> (first | done | (intro _; omega))
            try simp only [Act.put, List.setIfInBounds_toArray, List.set_cons_zero, List.set_cons_succ]
            refine tk 2 136 (.bool false) hHeld rfl (by kernel_rfl) (by kernel_rfl) (by kernel_rfl) (fun _ _ _ h => h) (Or.inl ⟨by rfl, ?_⟩) ?_
            · rintro w ⟨⟨q0, q1⟩, q2, q3⟩
              go_simp <;> (first | done | (intro _; omega))
            try simp only [Act.put, List.setIfInBounds_toArray, List.set_cons_zero, List.set_cons_succ]
            refine tk 3 137 (.bool false) hHeld rfl (by kernel_rfl) (by kernel_rfl) (by kernel_rfl) (fun _ _ _ h => h) (Or.inl ⟨by rfl, ?_⟩) ?_
            · rintro w ⟨⟨q0, q1⟩, q2, q3⟩
              go_simp <;> (first | done | (intro _; omega))
            try simp only [Act.put, List.setIfInBounds_toArray, List.set_cons_zero, List.set_cons_succ]
            refine tk 4 138 undef hHeld rfl (by kernel_rfl) (by kernel_rfl) (by kernel_rfl) (fun _ _ _ h => h) (Or.inr ⟨by rfl, rfl⟩) ?_
            try simp only [Act.put, List.setIfInBounds_toArray, List.set_cons_zero, List.set_cons_succ]
            refine tk 5 139 undef hHeld rfl (by kernel_rfl) (by kernel_rfl) (by kernel_rfl) (fun _ _ _ h => h) (Or.inr ⟨by rfl, rfl⟩) ?_
            try simp only [Act.put, List.setIfInBounds_toArray, List.set_cons_zero, List.set_cons_succ]
            refine tk 6 140 undef hHeld rfl (by kernel_rfl) (by kernel_rfl) (by kernel_rfl) (fun _ _ _ h => h) (Or.inr ⟨by rfl, rfl⟩) ?_
            try simp only [Act.put, List.setIfInBounds_toArray, List.set_cons_zero, List.set_cons_succ]
            refine tk 7 141 (.bool false) hHeld rfl (by kernel_rfl) (by kernel_rfl) (by kernel_rfl) (fun _ _ _ h => h) (Or.inl ⟨by rfl, ?_⟩) ?_
            · rintro w ⟨⟨q0, q1⟩, q2, q3⟩
              go_simp <;> (first | done | (intro _; omega))
            try simp only [Act.put, List.setIfInBounds_toArray, List.set_cons_zero, List.set_cons_succ]
            refine tk 8 142 (.bool false) hHeld rfl (by kernel_rfl) (by kernel_rfl) (by kernel_rfl) (fun _ _ _ h => h) (Or.inl ⟨by rfl, ?_⟩) ?_
            · rintro w ⟨⟨q0, q1⟩, q2, q3⟩
              go_simp <;> (first | done | (intro _; omega))
            try simp only [Act.put, List.setIfInBounds_toArray, List.set_cons_zero, List.set_cons_succ]
            refine tk 9 143 undef hHeld rfl (by kernel_rfl) (by kernel_rfl) (by kernel_rfl) (fun _ _ _ h => h) (Or.inr ⟨by rfl, rfl⟩) ?_
            try simp only [Act.put, List.setIfInBounds_toArray, List.set_cons_zero, List.set_cons_succ]
            refine tk 10 144 undef hHeld rfl (by kernel_rfl) (by kernel_rfl) (by kernel_rfl) (fun _ _ _ h => h) (Or.inr ⟨by rfl, rfl⟩) ?_
            try simp only [Act.put, List.setIfInBounds_toArray, List.set_cons_zero, List.set_cons_succ]
            refine tk 11 145 undef hHeld rfl (by kernel_rfl) (by kernel_rfl) (by kernel_rfl) (fun _ _ _ h => h) (Or.inr ⟨by rfl, rfl⟩) ?_
            try simp only [Act.put, List.setIfInBounds_toArray, List.set_cons_zero, List.set_cons_succ]
            refine tk 12 146 undef hHeld rfl (by kernel_rfl) (by kernel_rfl) (by kernel_rfl) (fun _ _ _ h => h) (Or.inr ⟨by rfl, rfl⟩) ?_
            try simp only [Act.put, List.setIfInBounds_toArray, List.set_cons_zero, List.set_cons_succ]
            refine tk 13 147 undef hHeld rfl (by kernel_rfl) (by kernel_rfl) (by kernel_rfl) (fun _ _ _ h => h) (Or.inr ⟨by rfl, rfl⟩) ?_
            try simp only [Act.put, List.setIfInBounds_toArray, List.set_cons_zero, List.set_cons_succ]
            refine tk 14 148 undef hHeld rfl (by kernel_rfl) (by kernel_rfl) (by kernel_rfl) (fun _ _ _ h => h) (Or.inr ⟨by rfl, rfl⟩) ?_
            try simp only [Act.put, List.setIfInBounds_toArray, List.set_cons_zero, List.set_cons_succ]
            refine tk 15 149 undef hHeld rfl (by kernel_rfl) (by kernel_rfl) (by kernel_rfl) (fun _ _ _ h => h) (Or.inr ⟨by rfl, rfl⟩) ?_
            try simp only [Act.put, List.setIfInBounds_toArray, List.set_cons_zero, List.set_cons_succ]
            refine tk 16 150 undef hHeld rfl (by kernel_rfl) (by kernel_rfl) (by kernel_rfl) (fun _ _ _ h => h) (Or.inr ⟨by rfl, rfl⟩) ?_
            try simp only [Act.put, List.setIfInBounds_toArray, List.set_cons_zero, List.set_cons_succ]
            refine tk 17 151 undef hHeld rfl (by kernel_rfl) (by kernel_rfl) (by kernel_rfl) (fun _ _ _ h => h) (Or.inr ⟨by rfl, rfl⟩) ?_
            try simp only [Act.put, List.setIfInBounds_toArray, List.set_cons_zero, List.set_cons_succ]
            refine tk 18 152 undef hHeld rfl (by kernel_rfl) (by kernel_rfl) (by kernel_rfl) (fun _ _ _ h => h) (Or.inr ⟨by rfl, rfl⟩) ?_
            try simp only [Act.put, List.setIfInBounds_toArray, List.set_cons_zero, List.set_cons_succ]
            refine tk 19 153 undef hHeld rfl (by kernel_rfl) (by kernel_rfl) (by kernel_rfl) (fun _ _ _ h => h) (Or.inr ⟨by rfl, rfl⟩) ?_
            try simp only [Act.put, List.setIfInBounds_toArray, List.set_cons_zero, List.set_cons_succ]
            refine tk 20 154 undef hHeld rfl (by kernel_rfl) (by kernel_rfl) (by kernel_rfl) (fun _ _ _ h => h) (Or.inr ⟨by rfl, rfl⟩) ?_
            try simp only [Act.put, List.setIfInBounds_toArray, List.set_cons_zero, List.set_cons_succ]
            refine tk 21 155 undef hHeld rfl (by kernel_rfl) (by kernel_rfl) (by kernel_rfl) (fun _ _ _ h => h) (Or.inr ⟨by rfl, rfl⟩) ?_
            try simp only [Act.put, List.setIfInBounds_toArray, List.set_cons_zero, List.set_cons_succ]
            refine tk 22 156 undef hHeld rfl (by kernel_rfl) (by kernel_rfl) (by kernel_rfl) (fun _ _ _ h => h) (Or.inr ⟨by rfl, rfl⟩) ?_
            try simp only [Act.put, List.setIfInBounds_toArray, List.set_cons_zero, List.set_cons_succ]
            refine tk 23 157 undef hHeld rfl (by kernel_rfl) (by kernel_rfl) (by kernel_rfl) (fun _ _ _ h => h) (Or.inr ⟨by rfl, rfl⟩) ?_
            try simp only [Act.put, List.setIfInBounds_toArray, List.set_cons_zero, List.set_cons_succ]
            refine tk 24 158 undef hHeld rfl (by kernel_rfl) (by kernel_rfl) (by kernel_rfl) (fun _ _ _ h => h) (Or.inr ⟨by rfl, rfl⟩) ?_
            try simp only [Act.put, List.setIfInBounds_toArray, List.set_cons_zero, List.set_cons_succ]
            refine tk 25 159 (.bool false) hHeld rfl (by kernel_rfl) (by kernel_rfl) (by kernel_rfl) (fun _ _ _ h => h) (Or.inl ⟨by rfl, ?_⟩) ?_
            · rintro w ⟨⟨q0, q1⟩, q2, q3⟩
              go_simp <;> (first | done | (intro _; omega))
            try simp only [Act.put, List.setIfInBounds_toArray, List.set_cons_zero, List.set_cons_succ]
            refine wpAnyH_done (by kernel_rfl) ?_ _
            go_wp2_with fail
            go_meet
            case rel => exact ⟨rfl, hide ((Below.refl _ _).drew)⟩
          · by_cases h2 : yr = 2
            · have hn1 : (rb != 2) = true := by simpa using h1
              clear HVW HSE HLF HSW RA RB RC RX RY RZ X3 X4 X5 X6 X7 X8 E1 E2 E3
              subst h2
              refine wp_region_held_drew (S := fun w' => (w'.cell? ⟨b4, 1, none⟩ = some (.int .i64 rb) ∧ w'.cell? ⟨b4, 2, none⟩ = some (.slice ba VB.length bc)) ∧ w'.cell? ⟨b7, 1, none⟩ = some (.int .i64 2) ∧ w'.cell? ⟨b7, 2, none⟩ = some (.slice ya Y.length yc)) (by kernel_rfl) (KB.out _ (Below.refl _ _).drew) (fun hHeld => ?_)
              change wpAnyH _ _ _ _ _ _ (Array.replicate _ false) _ _
              refine tk 0 134 (.pointer (some ⟨b4, 1, none⟩)) hHeld rfl (by kernel_rfl) (by kernel_rfl) (by kernel_rfl) (fun _ _ _ h => h) (Or.inl ⟨by rfl, ?_⟩) ?_
              · rintro w ⟨⟨q0, q1⟩, q2, q3⟩
                go_simp <;> (first | done | (intro _; omega))
              try simp only [Act.put, List.setIfInBounds_toArray, List.set_cons_zero, List.set_cons_succ]
              refine tk 1 135 (.int .i64 rb) hHeld rfl (by kernel_rfl) (by kernel_rfl) (by kernel_rfl) (fun _ _ _ h => h) (Or.inl ⟨by rfl, ?_⟩) ?_
              · rintro w ⟨⟨q0, q1⟩, q2, q3⟩
                go_simp <;> (first | done | (intro _; omega))
              try simp only [Act.put, List.setIfInBounds_toArray, List.set_cons_zero, List.set_cons_succ]
              refine tk 2 136 (.bool true) hHeld rfl (by kernel_rfl) (by kernel_rfl) (by kernel_rfl) (fun _ _ _ h => h) (Or.inl ⟨by rfl, ?_⟩) ?_
              · rintro w ⟨⟨q0, q1⟩, q2, q3⟩
                go_simp <;> (first | done | (intro _; omega))
              try simp only [Act.put, List.setIfInBounds_toArray, List.set_cons_zero, List.set_cons_succ]
              refine tk 3 137 (.bool true) hHeld rfl (by kernel_rfl) (by kernel_rfl) (by kernel_rfl) (fun _ _ _ h => h) (Or.inl ⟨by rfl, ?_⟩) ?_
              · rintro w ⟨⟨q0, q1⟩, q2, q3⟩
                go_simp <;> (first | done | (intro _; omega))
              try simp only [Act.put, List.setIfInBounds_toArray, List.set_cons_zero, List.set_cons_succ]
              refine tk 4 138 (.pointer (some ⟨b7, 1, none⟩)) hHeld rfl (by kernel_rfl) (by kernel_rfl) (by kernel_rfl) (fun _ _ _ h => h) (Or.inl ⟨by rfl, ?_⟩) ?_
              · rintro w ⟨⟨q0, q1⟩, q2, q3⟩
                go_simp <;> (first | done | (intro _; omega))
              try simp only [Act.put, List.setIfInBounds_toArray, List.set_cons_zero, List.set_cons_succ]
              refine tk 5 139 (.int .i64 2) hHeld rfl (by kernel_rfl) (by kernel_rfl) (by kernel_rfl) (fun _ _ _ h => h) (Or.inl ⟨by rfl, ?_⟩) ?_
              · rintro w ⟨⟨q0, q1⟩, q2, q3⟩
                go_simp <;> (first | done | (intro _; omega))
              try simp only [Act.put, List.setIfInBounds_toArray, List.set_cons_zero, List.set_cons_succ]
              refine tk 6 140 (.bool false) hHeld rfl (by kernel_rfl) (by kernel_rfl) (by kernel_rfl) (fun _ _ _ h => h) (Or.inl ⟨by rfl, ?_⟩) ?_
              · rintro w ⟨⟨q0, q1⟩, q2, q3⟩
                go_simp <;> (first | done | (intro _; omega))
              try simp only [Act.put, List.setIfInBounds_toArray, List.set_cons_zero, List.set_cons_succ]
              refine tk 7 141 (.bool false) hHeld rfl (by kernel_rfl) (by kernel_rfl) (by kernel_rfl) (fun _ _ _ h => h) (Or.inl ⟨by rfl, ?_⟩) ?_
              · rintro w ⟨⟨q0, q1⟩, q2, q3⟩
                go_simp <;> (first | done | (intro _; omega))
              try simp only [Act.put, List.setIfInBounds_toArray, List.set_cons_zero, List.set_cons_succ]
              refine tk 8 142 (.bool false) hHeld rfl (by kernel_rfl) (by kernel_rfl) (by kernel_rfl) (fun _ _ _ h => h) (Or.inl ⟨by rfl, ?_⟩) ?_
              · rintro w ⟨⟨q0, q1⟩, q2, q3⟩
                go_simp <;> (first | done | (intro _; omega))
              try simp only [Act.put, List.setIfInBounds_toArray, List.set_cons_zero, List.set_cons_succ]
              refine tk 9 143 undef hHeld rfl (by kernel_rfl) (by kernel_rfl) (by kernel_rfl) (fun _ _ _ h => h) (Or.inr ⟨by rfl, rfl⟩) ?_
              try simp only [Act.put, List.setIfInBounds_toArray, List.set_cons_zero, List.set_cons_succ]
              refine tk 10 144 undef hHeld rfl (by kernel_rfl) (by kernel_rfl) (by kernel_rfl) (fun _ _ _ h => h) (Or.inr ⟨by rfl, rfl⟩) ?_
              try simp only [Act.put, List.setIfInBounds_toArray, List.set_cons_zero, List.set_cons_succ]
              refine tk 11 145 undef hHeld rfl (by kernel_rfl) (by kernel_rfl) (by kernel_rfl) (fun _ _ _ h => h) (Or.inr ⟨by rfl, rfl⟩) ?_
              try simp only [Act.put, List.setIfInBounds_toArray, List.set_cons_zero, List.set_cons_succ]
              refine tk 12 146 undef hHeld rfl (by kernel_rfl) (by kernel_rfl) (by kernel_rfl) (fun _ _ _ h => h) (Or.inr ⟨by rfl, rfl⟩) ?_
              try simp only [Act.put, List.setIfInBounds_toArray, List.set_cons_zero, List.set_cons_succ]
              refine tk 13 147 undef hHeld rfl (by kernel_rfl) (by kernel_rfl) (by kernel_rfl) (fun _ _ _ h => h) (Or.inr ⟨by rfl, rfl⟩) ?_
              try simp only [Act.put, List.setIfInBounds_toArray, List.set_cons_zero, List.set_cons_succ]
              refine tk 14 148 undef hHeld rfl (by kernel_rfl) (by kernel_rfl) (by kernel_rfl) (fun _ _ _ h => h) (Or.inr ⟨by rfl, rfl⟩) ?_
              try simp only [Act.put, List.setIfInBounds_toArray, List.set_cons_zero, List.set_cons_succ]
              refine tk 15 149 undef hHeld rfl (by kernel_rfl) (by kernel_rfl) (by kernel_rfl) (fun _ _ _ h => h) (Or.inr ⟨by rfl, rfl⟩) ?_
              try simp only [Act.put, List.setIfInBounds_toArray, List.set_cons_zero, List.set_cons_succ]
              refine tk 16 150 undef hHeld rfl (by kernel_rfl) (by kernel_rfl) (by kernel_rfl) (fun _ _ _ h => h) (Or.inr ⟨by rfl, rfl⟩) ?_
              try simp only [Act.put, List.setIfInBounds_toArray, List.set_cons_zero, List.set_cons_succ]
              refine tk 17 151 undef hHeld rfl (by kernel_rfl) (by kernel_rfl) (by kernel_rfl) (fun _ _ _ h => h) (Or.inr ⟨by rfl, rfl⟩) ?_
              try simp only [Act.put, List.setIfInBounds_toArray, List.set_cons_zero, List.set_cons_succ]
              refine tk 18 152 undef hHeld rfl (by kernel_rfl) (by kernel_rfl) (by kernel_rfl) (fun _ _ _ h => h) (Or.inr ⟨by rfl, rfl⟩) ?_
              try simp only [Act.put, List.setIfInBounds_toArray, List.set_cons_zero, List.set_cons_succ]
              refine tk 19 153 undef hHeld rfl (by kernel_rfl) (by kernel_rfl) (by kernel_rfl) (fun _ _ _ h => h) (Or.inr ⟨by rfl, rfl⟩) ?_
              try simp only [Act.put, List.setIfInBounds_toArray, List.set_cons_zero, List.set_cons_succ]
              refine tk 20 154 undef hHeld rfl (by kernel_rfl) (by kernel_rfl) (by kernel_rfl) (fun _ _ _ h => h) (Or.inr ⟨by rfl, rfl⟩) ?_
              try simp only [Act.put, List.setIfInBounds_toArray, List.set_cons_zero, List.set_cons_succ]
              refine tk 21 155 undef hHeld rfl (by kernel_rfl) (by kernel_rfl) (by kernel_rfl) (fun _ _ _ h => h) (Or.inr ⟨by rfl, rfl⟩) ?_
              try simp only [Act.put, List.setIfInBounds_toArray, List.set_cons_zero, List.set_cons_succ]
              refine tk 22 156 undef hHeld rfl (by kernel_rfl) (by kernel_rfl) (by kernel_rfl) (fun _ _ _ h => h) (Or.inr ⟨by rfl, rfl⟩) ?_
              try simp only [Act.put, List.setIfInBounds_toArray, List.set_cons_zero, List.set_cons_succ]
              refine tk 23 157 undef hHeld rfl (by kernel_rfl) (by kernel_rfl) (by kernel_rfl) (fun _ _ _ h => h) (Or.inr ⟨by rfl, rfl⟩) ?_
              try simp only [Act.put, List.setIfInBounds_toArray, List.set_cons_zero, List.set_cons_succ]
              refine tk 24 158 undef hHeld rfl (by kernel_rfl) (by kernel_rfl) (by kernel_rfl) (fun _ _ _ h => h) (Or.inr ⟨by rfl, rfl⟩) ?_
              try simp only [Act.put, List.setIfInBounds_toArray, List.set_cons_zero, List.set_cons_succ]
              refine tk 25 159 (.bool false) hHeld rfl (by kernel_rfl) (by kernel_rfl) (by kernel_rfl) (fun _ _ _ h => h) (Or.inl ⟨by rfl, ?_⟩) ?_
              · rintro w ⟨⟨q0, q1⟩, q2, q3⟩
                go_simp <;> (first | done | (intro _; omega))
              try simp only [Act.put, List.setIfInBounds_toArray, List.set_cons_zero, List.set_cons_succ]
              refine wpAnyH_done (by kernel_rfl) ?_ _
              go_wp2_with fail
              go_meet
              case rel => exact ⟨rfl, hide ((Below.refl _ _).drew)⟩
            · obtain ⟨e1, e2⟩ := E2.out h1 h2
              subst e1
              have hn1 : (rb != 2) = true := by simpa using h1
              have hn2 : (rb != rb) = false := by simp
              have HVV : Hid (∀ u : World, Below WC1.heap.size WC1 u → Calls Tryz.prog 7 #[.slice av ls.length cv, .slice ba VB.length bc] u fun r w' => ∃ c2 tv tc2, r = .returned (.agg #[.int .i64 c2, .int .i64 0, .slice tv Y.length tc2]) ∧ RdE w' tv Y ∧ Below u.heap.size u w') := hide (fun u hu => by
                have h3 := HVW.out VB ba bc u ((RB.out.below HS1.out).below hu) g2 HBS.out (below_next BV8.out (below_next HS1.out hu))
                rw [e2] at h3
                exact h3)
              have RY' := hide (RY.out.below HS1.out)
              clear RY
              have RY := RY'
              clear RY' HVW HLF HSW E1 E2 E3 e2
              refine wp_region_held_drew (S := fun w' => (w'.cell? ⟨b4, 1, none⟩ = some (.int .i64 rb) ∧ w'.cell? ⟨b4, 2, none⟩ = some (.slice ba VB.length bc)) ∧ w'.cell? ⟨b7, 1, none⟩ = some (.int .i64 rb) ∧ w'.cell? ⟨b7, 2, none⟩ = some (.slice ya Y.length yc)) (by kernel_rfl) (KB.out _ (Below.refl _ _).drew) (fun hHeld => ?_)
              change wpAnyH _ _ _ _ _ _ (Array.replicate _ false) _ _
              refine tk 0 134 (.pointer (some ⟨b4, 1, none⟩)) hHeld rfl (by kernel_rfl) (by kernel_rfl) (by kernel_rfl) (fun _ _ _ h => h) (Or.inl ⟨by rfl, ?_⟩) ?_
              · rintro w ⟨⟨q0, q1⟩, q2, q3⟩
                go_simp <;> (first | done | (intro _; omega))
              try simp only [Act.put, List.setIfInBounds_toArray, List.set_cons_zero, List.set_cons_succ]
              refine tk 1 135 (.int .i64 rb) hHeld rfl (by kernel_rfl) (by kernel_rfl) (by kernel_rfl) (fun _ _ _ h => h) (Or.inl ⟨by rfl, ?_⟩) ?_
              · rintro w ⟨⟨q0, q1⟩, q2, q3⟩
                go_simp <;> (first | done | (intro _; omega))
              try simp only [Act.put, List.setIfInBounds_toArray, List.set_cons_zero, List.set_cons_succ]
              refine tk 2 136 (.bool true) hHeld rfl (by kernel_rfl) (by kernel_rfl) (by kernel_rfl) (fun _ _ _ h => h) (Or.inl ⟨by rfl, ?_⟩) ?_
              · rintro w ⟨⟨q0, q1⟩, q2, q3⟩
                go_simp <;> (first | done | (intro _; omega))
              try simp only [Act.put, List.setIfInBounds_toArray, List.set_cons_zero, List.set_cons_succ]
              refine tk 3 137 (.bool true) hHeld rfl (by kernel_rfl) (by kernel_rfl) (by kernel_rfl) (fun _ _ _ h => h) (Or.inl ⟨by rfl, ?_⟩) ?_
              · rintro w ⟨⟨q0, q1⟩, q2, q3⟩
                go_simp <;> (first | done | (intro _; omega))
              try simp only [Act.put, List.setIfInBounds_toArray, List.set_cons_zero, List.set_cons_succ]
              refine tk 4 138 (.pointer (some ⟨b7, 1, none⟩)) hHeld rfl (by kernel_rfl) (by kernel_rfl) (by kernel_rfl) (fun _ _ _ h => h) (Or.inl ⟨by rfl, ?_⟩) ?_
              · rintro w ⟨⟨q0, q1⟩, q2, q3⟩
                go_simp <;> (first | done | (intro _; omega))
              try simp only [Act.put, List.setIfInBounds_toArray, List.set_cons_zero, List.set_cons_succ]
              refine tk 5 139 (.int .i64 rb) hHeld rfl (by kernel_rfl) (by kernel_rfl) (by kernel_rfl) (fun _ _ _ h => h) (Or.inl ⟨by rfl, ?_⟩) ?_
              · rintro w ⟨⟨q0, q1⟩, q2, q3⟩
                go_simp <;> (first | done | (intro _; omega))
              try simp only [Act.put, List.setIfInBounds_toArray, List.set_cons_zero, List.set_cons_succ]
              refine tk 6 140 (.bool true) hHeld rfl (by kernel_rfl) (by kernel_rfl) (by kernel_rfl) (fun _ _ _ h => h) (Or.inl ⟨by rfl, ?_⟩) ?_
              · rintro w ⟨⟨q0, q1⟩, q2, q3⟩
                go_simp <;> (first | done | (intro _; omega))
              try simp only [Act.put, List.setIfInBounds_toArray, List.set_cons_zero, List.set_cons_succ]
              refine tk 7 141 (.bool true) hHeld rfl (by kernel_rfl) (by kernel_rfl) (by kernel_rfl) (fun _ _ _ h => h) (Or.inl ⟨by rfl, ?_⟩) ?_
              · rintro w ⟨⟨q0, q1⟩, q2, q3⟩
                go_simp <;> (first | done | (intro _; omega))
              try simp only [Act.put, List.setIfInBounds_toArray, List.set_cons_zero, List.set_cons_succ]
              refine tk 8 142 (.bool true) hHeld rfl (by kernel_rfl) (by kernel_rfl) (by kernel_rfl) (fun _ _ _ h => h) (Or.inl ⟨by rfl, ?_⟩) ?_
              · rintro w ⟨⟨q0, q1⟩, q2, q3⟩
                go_simp <;> (first | done | (intro _; omega))
              try simp only [Act.put, List.setIfInBounds_toArray, List.set_cons_zero, List.set_cons_succ]
              refine tk 9 143 (.pointer (some ⟨b4, 1, none⟩)) hHeld rfl (by kernel_rfl) (by kernel_rfl) (by kernel_rfl) (fun _ _ _ h => h) (Or.inl ⟨by rfl, ?_⟩) ?_
              · rintro w ⟨⟨q0, q1⟩, q2, q3⟩
                go_simp <;> (first | done | (intro _; omega))
              try simp only [Act.put, List.setIfInBounds_toArray, List.set_cons_zero, List.set_cons_succ]
              refine tk 10 144 (.int .i64 rb) hHeld rfl (by kernel_rfl) (by kernel_rfl) (by kernel_rfl) (fun _ _ _ h => h) (Or.inl ⟨by rfl, ?_⟩) ?_
              · rintro w ⟨⟨q0, q1⟩, q2, q3⟩
                go_simp <;> (first | done | (intro _; omega))
              try simp only [Act.put, List.setIfInBounds_toArray, List.set_cons_zero, List.set_cons_succ]
              refine tk 11 145 (.pointer (some ⟨b7, 1, none⟩)) hHeld rfl (by kernel_rfl) (by kernel_rfl) (by kernel_rfl) (fun _ _ _ h => h) (Or.inl ⟨by rfl, ?_⟩) ?_
              · rintro w ⟨⟨q0, q1⟩, q2, q3⟩
                go_simp <;> (first | done | (intro _; omega))
              try simp only [Act.put, List.setIfInBounds_toArray, List.set_cons_zero, List.set_cons_succ]
              refine tk 12 146 (.int .i64 rb) hHeld rfl (by kernel_rfl) (by kernel_rfl) (by kernel_rfl) (fun _ _ _ h => h) (Or.inl ⟨by rfl, ?_⟩) ?_
              · rintro w ⟨⟨q0, q1⟩, q2, q3⟩
                go_simp <;> (first | done | (intro _; omega))
              try simp only [Act.put, List.setIfInBounds_toArray, List.set_cons_zero, List.set_cons_succ]
              refine tk 13 147 (.bool false) hHeld rfl (by kernel_rfl) (by kernel_rfl) (by kernel_rfl) (fun _ _ _ h => h) (Or.inl ⟨by rfl, ?_⟩) ?_
              · rintro w ⟨⟨q0, q1⟩, q2, q3⟩
                go_simp <;> (first | done | (intro _; omega))
              try simp only [Act.put, List.setIfInBounds_toArray, List.set_cons_zero, List.set_cons_succ]
              refine tk 14 148 (.bool false) hHeld rfl (by kernel_rfl) (by kernel_rfl) (by kernel_rfl) (fun _ _ _ h => h) (Or.inl ⟨by rfl, ?_⟩) ?_
              · rintro w ⟨⟨q0, q1⟩, q2, q3⟩
                go_simp <;> (first | done | (intro _; omega))
              try simp only [Act.put, List.setIfInBounds_toArray, List.set_cons_zero, List.set_cons_succ]
              refine tk 15 149 (.slice av ls.length cv) hHeld rfl (by kernel_rfl) (by kernel_rfl) (by kernel_rfl) (fun _ _ _ h => h) (Or.inl ⟨by rfl, ?_⟩) ?_
              · rintro w ⟨⟨q0, q1⟩, q2, q3⟩
                go_simp <;> (first | done | (intro _; omega))
              try simp only [Act.put, List.setIfInBounds_toArray, List.set_cons_zero, List.set_cons_succ]
              refine tk 16 150 (.pointer (some ⟨b4, 2, none⟩)) hHeld rfl (by kernel_rfl) (by kernel_rfl) (by kernel_rfl) (fun _ _ _ h => h) (Or.inl ⟨by rfl, ?_⟩) ?_
              · rintro w ⟨⟨q0, q1⟩, q2, q3⟩
                go_simp <;> (first | done | (intro _; omega))
              try simp only [Act.put, List.setIfInBounds_toArray, List.set_cons_zero, List.set_cons_succ]
              refine tk 17 151 (.slice ba VB.length bc) hHeld rfl (by kernel_rfl) (by kernel_rfl) (by kernel_rfl) (fun _ _ _ h => h) (Or.inl ⟨by rfl, ?_⟩) ?_
              · rintro w ⟨⟨q0, q1⟩, q2, q3⟩
                go_simp <;> (first | done | (intro _; omega))
              try simp only [Act.put, List.setIfInBounds_toArray, List.set_cons_zero, List.set_cons_succ]
              refine tk 20 154 (.pointer (some ⟨b7, 2, none⟩)) hHeld rfl (by kernel_rfl) (by kernel_rfl) (by kernel_rfl) (fun _ _ _ h => h) (Or.inl ⟨by rfl, ?_⟩) ?_
              · rintro w ⟨⟨q0, q1⟩, q2, q3⟩
                go_simp <;> (first | done | (intro _; omega))
              try simp only [Act.put, List.setIfInBounds_toArray, List.set_cons_zero, List.set_cons_succ]
              refine tk 21 155 (.slice ya Y.length yc) hHeld rfl (by kernel_rfl) (by kernel_rfl) (by kernel_rfl) (fun _ _ _ h => h) (Or.inl ⟨by rfl, ?_⟩) ?_
              · rintro w ⟨⟨q0, q1⟩, q2, q3⟩
                go_simp <;> (first | done | (intro _; omega))
              try simp only [Act.put, List.setIfInBounds_toArray, List.set_cons_zero, List.set_cons_succ]
              refine wpAnyH_ready (rs := [18]) (by kernel_rfl) (by simp) ?_
              refine AllReadyH.cons rfl (fun K hK => ?_) AllReadyH.nil
              go_simp
              refine (HVV.out _ (Below.refl _ _).drew).mono ?_
              rintro r w9 ⟨c2, tv, tc2, rfl, hr9, hb9⟩
              have BB1 := hide ((Below.refl WC1.heap.size WC1).drew.trans hb9)
              have RT9 := hide hr9
              clear hr9 hb9
              go_wp2_with fail
              refine hK.out _ _ (KB.out _ BB1.out) (fun hHeld => ?_)
              clear hK K
              try simp only [Act.put, List.setIfInBounds_toArray, List.set_cons_zero, List.set_cons_succ]
              refine tk 19 153 (.slice tv Y.length tc2) hHeld rfl (by kernel_rfl) (by kernel_rfl) (by kernel_rfl) (fun _ _ _ h => h) (Or.inl ⟨by rfl, ?_⟩) ?_
              · rintro w ⟨⟨q0, q1⟩, q2, q3⟩
                go_simp <;> (first | done | (intro _; omega))
              try simp only [Act.put, List.setIfInBounds_toArray, List.set_cons_zero, List.set_cons_succ]
              refine wpAnyH_ready (rs := [22]) (by kernel_rfl) (by simp) ?_
              refine AllReadyH.cons rfl (fun K hK => ?_) AllReadyH.nil
              go_simp
              refine (HSE.out Y tv ya tc2 yc _ RT9.out (RY.out.below BB1.out) k1 HYS.out).mono ?_
              rintro r w10 ⟨rfl, hb10⟩
              have BB2 := hide (below_next BB1.out hb10)
              clear hb10
              go_wp2_with fail
              refine hK.out _ _ (KB.out _ BB2.out) (fun hHeld => ?_)
              clear hK K
              try simp only [Act.put, List.setIfInBounds_toArray, List.set_cons_zero, List.set_cons_succ]
              refine tk 23 157 (.bool false) hHeld rfl (by kernel_rfl) (by kernel_rfl) (by kernel_rfl) (fun _ _ _ h => h) (Or.inl ⟨by rfl, ?_⟩) ?_
              · rintro w ⟨⟨q0, q1⟩, q2, q3⟩
                go_simp <;> (first | done | (intro _; omega))
              try simp only [Act.put, List.setIfInBounds_toArray, List.set_cons_zero, List.set_cons_succ]
              refine tk 24 158 (.bool false) hHeld rfl (by kernel_rfl) (by kernel_rfl) (by kernel_rfl) (fun _ _ _ h => h) (Or.inl ⟨by rfl, ?_⟩) ?_
              · rintro w ⟨⟨q0, q1⟩, q2, q3⟩
                go_simp <;> (first | done | (intro _; omega))
              try simp only [Act.put, List.setIfInBounds_toArray, List.set_cons_zero, List.set_cons_succ]
              refine tk 25 159 (.bool false) hHeld rfl (by kernel_rfl) (by kernel_rfl) (by kernel_rfl) (fun _ _ _ h => h) (Or.inl ⟨by rfl, ?_⟩) ?_
              · rintro w ⟨⟨q0, q1⟩, q2, q3⟩
                go_simp <;> (first | done | (intro _; omega))
              try simp only [Act.put, List.setIfInBounds_toArray, List.set_cons_zero, List.set_cons_succ]
              refine wpAnyH_done (by kernel_rfl) ?_ _
              go_wp2_with fail
              go_meet
              case rel => exact ⟨rfl, hide (BB2.out)⟩
        case rest =>
          obtain ⟨rfl, HQ2⟩ := hcut
          have HS2 := hide (below_next HS1.out HQ2.out)
          clear HQ2
          obtain ⟨WC2, hwc⟩ : ∃ x, x = wc := ⟨_, rfl⟩
          subst hwc
          go_upto_region 17 with fail
          go_cut [180] from 160 to 180 (fun vv wc => vv = .bool false ∧ Hid (Below WC2.heap.size WC2 wc))
          case first =>
            have KB : Hid (∀ w' : World, Below WC2.heap.size WC2 w' → (w'.cell? ⟨b5, 1, none⟩ = some (.int .i64 rc) ∧ w'.cell? ⟨b5, 2, none⟩ = some (.slice ca VC.length cc)) ∧ w'.cell? ⟨b8, 1, none⟩ = some (.int .i64 zr) ∧ w'.cell? ⟨b8, 2, none⟩ = some (.slice za Z.length zc)) := hide (fun w' hb' => ⟨⟨((X5.out.below HS2.out).below hb').1.2.1, ((X5.out.below HS2.out).below hb').1.2.2⟩, ((X8.out.below HS2.out).below hb').1.2.1, ((X8.out.below HS2.out).below hb').1.2.2⟩)
            by_cases h1 : rc = 2
            · clear HVW HSE HLF HSW RA RB RC RX RY RZ X3 X4 X5 X6 X7 X8 E1 E2 E3
              subst h1
              refine wp_region_held_drew (S := fun w' => (w'.cell? ⟨b5, 1, none⟩ = some (.int .i64 2) ∧ w'.cell? ⟨b5, 2, none⟩ = some (.slice ca VC.length cc)) ∧ w'.cell? ⟨b8, 1, none⟩ = some (.int .i64 zr) ∧ w'.cell? ⟨b8, 2, none⟩ = some (.slice za Z.length zc)) (by kernel_rfl) (KB.out _ (Below.refl _ _).drew) (fun hHeld => ?_)
              change wpAnyH _ _ _ _ _ _ (Array.replicate _ false) _ _
              refine tk 0 160 (.pointer (some ⟨b5, 1, none⟩)) hHeld rfl (by kernel_rfl) (by kernel_rfl) (by kernel_rfl) (fun _ _ _ h => h) (Or.inl ⟨by rfl, ?_⟩) ?_
              · rintro w ⟨⟨q0, q1⟩, q2, q3⟩
                go_simp <;> (first | done | (intro _; omega))
              try simp only [Act.put, List.setIfInBounds_toArray, List.set_cons_zero, List.set_cons_succ]
              refine tk 1 161 (.int .i64 2) hHeld rfl (by kernel_rfl) (by kernel_rfl) (by kernel_rfl) (fun _ _ _ h => h) (Or.inl ⟨by rfl, ?_⟩) ?_
              · rintro w ⟨⟨q0, q1⟩, q2, q3⟩
                go_simp <;> (first | done | (intro _; omega))
              try simp only [Act.put, List.setIfInBounds_toArray, List.set_cons_zero, List.set_cons_succ]
              refine tk 2 162 (.bool false) hHeld rfl (by kernel_rfl) (by kernel_rfl) (by kernel_rfl) (fun _ _ _ h => h) (Or.inl ⟨by rfl, ?_⟩) ?_
              · rintro w ⟨⟨q0, q1⟩, q2, q3⟩
                go_simp <;> (first | done | (intro _; omega))
              try simp only [Act.put, List.setIfInBounds_toArray, List.set_cons_zero, List.set_cons_succ]
              refine tk 3 163 (.bool false) hHeld rfl (by kernel_rfl) (by kernel_rfl) (by kernel_rfl) (fun _ _ _ h => h) (Or.inl ⟨by rfl, ?_⟩) ?_
              · rintro w ⟨⟨q0, q1⟩, q2, q3⟩
                go_simp <;> (first | done | (intro _; omega))
              try simp only [Act.put, List.setIfInBounds_toArray, List.set_cons_zero, List.set_cons_succ]
              refine tk 4 164 undef hHeld rfl (by kernel_rfl) (by kernel_rfl) (by kernel_rfl) (fun _ _ _ h => h) (Or.inr ⟨by rfl, rfl⟩) ?_
              try simp only [Act.put, List.setIfInBounds_toArray, List.set_cons_zero, List.set_cons_succ]
              refine tk 5 165 undef hHeld rfl (by kernel_rfl) (by kernel_rfl) (by kernel_rfl) (fun _ _ _ h => h) (Or.inr ⟨by rfl, rfl⟩) ?_
              try simp only [Act.put, List.setIfInBounds_toArray, List.set_cons_zero, List.set_cons_succ]
              refine tk 6 166 undef hHeld rfl (by kernel_rfl) (by kernel_rfl) (by kernel_rfl) (fun _ _ _ h => h) (Or.inr ⟨by rfl, rfl⟩) ?_
              try simp only [Act.put, List.setIfInBounds_toArray, List.set_cons_zero, List.set_cons_succ]
              refine tk 7 167 undef hHeld rfl (by kernel_rfl) (by kernel_rfl) (by kernel_rfl) (fun _ _ _ h => h) (Or.inr ⟨by rfl, rfl⟩) ?_
              try simp only [Act.put, List.setIfInBounds_toArray, List.set_cons_zero, List.set_cons_succ]
              refine tk 8 168 undef hHeld rfl (by kernel_rfl) (by kernel_rfl) (by kernel_rfl) (fun _ _ _ h => h) (Or.inr ⟨by rfl, rfl⟩) ?_
              try simp only [Act.put, List.setIfInBounds_toArray, List.set_cons_zero, List.set_cons_succ]
              refine tk 9 169 undef hHeld rfl (by kernel_rfl) (by kernel_rfl) (by kernel_rfl) (fun _ _ _ h => h) (Or.inr ⟨by rfl, rfl⟩) ?_
              try simp only [Act.put, List.setIfInBounds_toArray, List.set_cons_zero, List.set_cons_succ]
              refine tk 10 170 undef hHeld rfl (by kernel_rfl) (by kernel_rfl) (by kernel_rfl) (fun _ _ _ h => h) (Or.inr ⟨by rfl, rfl⟩) ?_
              try simp only [Act.put, List.setIfInBounds_toArray, List.set_cons_zero, List.set_cons_succ]
              refine tk 11 171 undef hHeld rfl (by kernel_rfl) (by kernel_rfl) (by kernel_rfl) (fun _ _ _ h => h) (Or.inr ⟨by rfl, rfl⟩) ?_
              try simp only [Act.put, List.setIfInBounds_toArray, List.set_cons_zero, List.set_cons_succ]
              refine tk 12 172 undef hHeld rfl (by kernel_rfl) (by kernel_rfl) (by kernel_rfl) (fun _ _ _ h => h) (Or.inr ⟨by rfl, rfl⟩) ?_
              try simp only [Act.put, List.setIfInBounds_toArray, List.set_cons_zero, List.set_cons_succ]
              refine tk 13 173 undef hHeld rfl (by kernel_rfl) (by kernel_rfl) (by kernel_rfl) (fun _ _ _ h => h) (Or.inr ⟨by rfl, rfl⟩) ?_
              try simp only [Act.put, List.setIfInBounds_toArray, List.set_cons_zero, List.set_cons_succ]
              refine tk 14 174 undef hHeld rfl (by kernel_rfl) (by kernel_rfl) (by kernel_rfl) (fun _ _ _ h => h) (Or.inr ⟨by rfl, rfl⟩) ?_
              try simp only [Act.put, List.setIfInBounds_toArray, List.set_cons_zero, List.set_cons_succ]
              refine tk 15 175 undef hHeld rfl (by kernel_rfl) (by kernel_rfl) (by kernel_rfl) (fun _ _ _ h => h) (Or.inr ⟨by rfl, rfl⟩) ?_
              try simp only [Act.put, List.setIfInBounds_toArray, List.set_cons_zero, List.set_cons_succ]
              refine tk 16 176 undef hHeld rfl (by kernel_rfl) (by kernel_rfl) (by kernel_rfl) (fun _ _ _ h => h) (Or.inr ⟨by rfl, rfl⟩) ?_
              try simp only [Act.put, List.setIfInBounds_toArray, List.set_cons_zero, List.set_cons_succ]
              refine tk 17 177 undef hHeld rfl (by kernel_rfl) (by kernel_rfl) (by kernel_rfl) (fun _ _ _ h => h) (Or.inr ⟨by rfl, rfl⟩) ?_
              try simp only [Act.put, List.setIfInBounds_toArray, List.set_cons_zero, List.set_cons_succ]
              refine tk 18 178 undef hHeld rfl (by kernel_rfl) (by kernel_rfl) (by kernel_rfl) (fun _ _ _ h => h) (Or.inr ⟨by rfl, rfl⟩) ?_
              try simp only [Act.put, List.setIfInBounds_toArray, List.set_cons_zero, List.set_cons_succ]
              refine tk 19 179 undef hHeld rfl (by kernel_rfl) (by kernel_rfl) (by kernel_rfl) (fun _ _ _ h => h) (Or.inr ⟨by rfl, rfl⟩) ?_
              try simp only [Act.put, List.setIfInBounds_toArray, List.set_cons_zero, List.set_cons_succ]
              refine tk 20 180 (.bool false) hHeld rfl (by kernel_rfl) (by kernel_rfl) (by kernel_rfl) (fun _ _ _ h => h) (Or.inl ⟨by rfl, ?_⟩) ?_
              · rintro w ⟨⟨q0, q1⟩, q2, q3⟩
                go_simp <;> (first | done | (intro _; omega))
              try simp only [Act.put, List.setIfInBounds_toArray, List.set_cons_zero, List.set_cons_succ]
              refine wpAnyH_done (by kernel_rfl) ?_ _
              go_wp2_with fail
              go_meet
              case rel => exact ⟨rfl, hide ((Below.refl _ _).drew)⟩
            · obtain ⟨e1, e2⟩ := E3.out h1
              subst e1
              have hn1 : (rc != 2) = true := by simpa using h1
              have hn2 : (rc != rc) = false := by simp
              have HVV : Hid (∀ u : World, Below WC2.heap.size WC2 u → Calls Tryz.prog 7 #[.slice av ls.length cv, .slice ca VC.length cc] u fun r w' => ∃ c2 tv tc2, r = .returned (.agg #[.int .i64 c2, .int .i64 0, .slice tv Z.length tc2]) ∧ RdE w' tv Z ∧ Below u.heap.size u w') := hide (fun u hu => by
                have h3 := HVW.out VC ca cc u ((RC.out.below HS2.out).below hu) i2 HCS.out (below_next BV8.out (below_next HS2.out hu))
                rw [e2] at h3
                exact h3)
              have RZ' := hide (RZ.out.below HS2.out)
              clear RZ
              have RZ := RZ'
              clear RZ' HVW HLF HSW E1 E2 E3 e2
              refine wp_region_held_drew (S := fun w' => (w'.cell? ⟨b5, 1, none⟩ = some (.int .i64 rc) ∧ w'.cell? ⟨b5, 2, none⟩ = some (.slice ca VC.length cc)) ∧ w'.cell? ⟨b8, 1, none⟩ = some (.int .i64 rc) ∧ w'.cell? ⟨b8, 2, none⟩ = some (.slice za Z.length zc)) (by kernel_rfl) (KB.out _ (Below.refl _ _).drew) (fun hHeld => ?_)
              change wpAnyH _ _ _ _ _ _ (Array.replicate _ false) _ _
              refine tk 0 160 (.pointer (some ⟨b5, 1, none⟩)) hHeld rfl (by kernel_rfl) (by kernel_rfl) (by kernel_rfl) (fun _ _ _ h => h) (Or.inl ⟨by rfl, ?_⟩) ?_
              · rintro w ⟨⟨q0, q1⟩, q2, q3⟩
                go_simp <;> (first | done | (intro _; omega))
              try simp only [Act.put, List.setIfInBounds_toArray, List.set_cons_zero, List.set_cons_succ]
              refine tk 1 161 (.int .i64 rc) hHeld rfl (by kernel_rfl) (by kernel_rfl) (by kernel_rfl) (fun _ _ _ h => h) (Or.inl ⟨by rfl, ?_⟩) ?_
              · rintro w ⟨⟨q0, q1⟩, q2, q3⟩
                go_simp <;> (first | done | (intro _; omega))
              try simp only [Act.put, List.setIfInBounds_toArray, List.set_cons_zero, List.set_cons_succ]
              refine tk 2 162 (.bool true) hHeld rfl (by kernel_rfl) (by kernel_rfl) (by kernel_rfl) (fun _ _ _ h => h) (Or.inl ⟨by rfl, ?_⟩) ?_
              · rintro w ⟨⟨q0, q1⟩, q2, q3⟩
                go_simp <;> (first | done | (intro _; omega))
              try simp only [Act.put, List.setIfInBounds_toArray, List.set_cons_zero, List.set_cons_succ]
              refine tk 3 163 (.bool true) hHeld rfl (by kernel_rfl) (by kernel_rfl) (by kernel_rfl) (fun _ _ _ h => h) (Or.inl ⟨by rfl, ?_⟩) ?_
              · rintro w ⟨⟨q0, q1⟩, q2, q3⟩
                go_simp <;> (first | done | (intro _; omega))
              try simp only [Act.put, List.setIfInBounds_toArray, List.set_cons_zero, List.set_cons_succ]
              refine tk 4 164 (.pointer (some ⟨b5, 1, none⟩)) hHeld rfl (by kernel_rfl) (by kernel_rfl) (by kernel_rfl) (fun _ _ _ h => h) (Or.inl ⟨by rfl, ?_⟩) ?_
              · rintro w ⟨⟨q0, q1⟩, q2, q3⟩
                go_simp <;> (first | done | (intro _; omega))
              try simp only [Act.put, List.setIfInBounds_toArray, List.set_cons_zero, List.set_cons_succ]
              refine tk 5 165 (.int .i64 rc) hHeld rfl (by kernel_rfl) (by kernel_rfl) (by kernel_rfl) (fun _ _ _ h => h) (Or.inl ⟨by rfl, ?_⟩) ?_
              · rintro w ⟨⟨q0, q1⟩, q2, q3⟩
                go_simp <;> (first | done | (intro _; omega))
              try simp only [Act.put, List.setIfInBounds_toArray, List.set_cons_zero, List.set_cons_succ]
              refine tk 6 166 (.pointer (some ⟨b8, 1, none⟩)) hHeld rfl (by kernel_rfl) (by kernel_rfl) (by kernel_rfl) (fun _ _ _ h => h) (Or.inl ⟨by rfl, ?_⟩) ?_
              · rintro w ⟨⟨q0, q1⟩, q2, q3⟩
                go_simp <;> (first | done | (intro _; omega))
              try simp only [Act.put, List.setIfInBounds_toArray, List.set_cons_zero, List.set_cons_succ]
              refine tk 7 167 (.int .i64 rc) hHeld rfl (by kernel_rfl) (by kernel_rfl) (by kernel_rfl) (fun _ _ _ h => h) (Or.inl ⟨by rfl, ?_⟩) ?_
              · rintro w ⟨⟨q0, q1⟩, q2, q3⟩
                go_simp <;> (first | done | (intro _; omega))
              try simp only [Act.put, List.setIfInBounds_toArray, List.set_cons_zero, List.set_cons_succ]
              refine tk 8 168 (.bool false) hHeld rfl (by kernel_rfl) (by kernel_rfl) (by kernel_rfl) (fun _ _ _ h => h) (Or.inl ⟨by rfl, ?_⟩) ?_
              · rintro w ⟨⟨q0, q1⟩, q2, q3⟩
                go_simp <;> (first | done | (intro _; omega))
              try simp only [Act.put, List.setIfInBounds_toArray, List.set_cons_zero, List.set_cons_succ]
              refine tk 9 169 (.bool false) hHeld rfl (by kernel_rfl) (by kernel_rfl) (by kernel_rfl) (fun _ _ _ h => h) (Or.inl ⟨by rfl, ?_⟩) ?_
              · rintro w ⟨⟨q0, q1⟩, q2, q3⟩
                go_simp <;> (first | done | (intro _; omega))
              try simp only [Act.put, List.setIfInBounds_toArray, List.set_cons_zero, List.set_cons_succ]
              refine tk 10 170 (.slice av ls.length cv) hHeld rfl (by kernel_rfl) (by kernel_rfl) (by kernel_rfl) (fun _ _ _ h => h) (Or.inl ⟨by rfl, ?_⟩) ?_
              · rintro w ⟨⟨q0, q1⟩, q2, q3⟩
                go_simp <;> (first | done | (intro _; omega))
              try simp only [Act.put, List.setIfInBounds_toArray, List.set_cons_zero, List.set_cons_succ]
              refine tk 11 171 (.pointer (some ⟨b5, 2, none⟩)) hHeld rfl (by kernel_rfl) (by kernel_rfl) (by kernel_rfl) (fun _ _ _ h => h) (Or.inl ⟨by rfl, ?_⟩) ?_
              · rintro w ⟨⟨q0, q1⟩, q2, q3⟩
                go_simp <;> (first | done | (intro _; omega))
              try simp only [Act.put, List.setIfInBounds_toArray, List.set_cons_zero, List.set_cons_succ]
              refine tk 12 172 (.slice ca VC.length cc) hHeld rfl (by kernel_rfl) (by kernel_rfl) (by kernel_rfl) (fun _ _ _ h => h) (Or.inl ⟨by rfl, ?_⟩) ?_
              · rintro w ⟨⟨q0, q1⟩, q2, q3⟩
                go_simp <;> (first | done | (intro _; omega))
              try simp only [Act.put, List.setIfInBounds_toArray, List.set_cons_zero, List.set_cons_succ]
              refine tk 15 175 (.pointer (some ⟨b8, 2, none⟩)) hHeld rfl (by kernel_rfl) (by kernel_rfl) (by kernel_rfl) (fun _ _ _ h => h) (Or.inl ⟨by rfl, ?_⟩) ?_
              · rintro w ⟨⟨q0, q1⟩, q2, q3⟩
                go_simp <;> (first | done | (intro _; omega))
              try simp only [Act.put, List.setIfInBounds_toArray, List.set_cons_zero, List.set_cons_succ]
              refine tk 16 176 (.slice za Z.length zc) hHeld rfl (by kernel_rfl) (by kernel_rfl) (by kernel_rfl) (fun _ _ _ h => h) (Or.inl ⟨by rfl, ?_⟩) ?_
              · rintro w ⟨⟨q0, q1⟩, q2, q3⟩
                go_simp <;> (first | done | (intro _; omega))
              try simp only [Act.put, List.setIfInBounds_toArray, List.set_cons_zero, List.set_cons_succ]
              refine wpAnyH_ready (rs := [13]) (by kernel_rfl) (by simp) ?_
              refine AllReadyH.cons rfl (fun K hK => ?_) AllReadyH.nil
              go_simp
              refine (HVV.out _ (Below.refl _ _).drew).mono ?_
              rintro r w9 ⟨c2, tv, tc2, rfl, hr9, hb9⟩
              have BB1 := hide ((Below.refl WC2.heap.size WC2).drew.trans hb9)
              have RT9 := hide hr9
              clear hr9 hb9
              go_wp2_with fail
              refine hK.out _ _ (KB.out _ BB1.out) (fun hHeld => ?_)
              clear hK K
              try simp only [Act.put, List.setIfInBounds_toArray, List.set_cons_zero, List.set_cons_succ]
              refine tk 14 174 (.slice tv Z.length tc2) hHeld rfl (by kernel_rfl) (by kernel_rfl) (by kernel_rfl) (fun _ _ _ h => h) (Or.inl ⟨by rfl, ?_⟩) ?_
              · rintro w ⟨⟨q0, q1⟩, q2, q3⟩
                go_simp <;> (first | done | (intro _; omega))
              try simp only [Act.put, List.setIfInBounds_toArray, List.set_cons_zero, List.set_cons_succ]
              refine wpAnyH_ready (rs := [17]) (by kernel_rfl) (by simp) ?_
              refine AllReadyH.cons rfl (fun K hK => ?_) AllReadyH.nil
              go_simp
              refine (HSE.out Z tv za tc2 zc _ RT9.out (RZ.out.below BB1.out) l1 HZS.out).mono ?_
              rintro r w10 ⟨rfl, hb10⟩
              have BB2 := hide (below_next BB1.out hb10)
              clear hb10
              go_wp2_with fail
              refine hK.out _ _ (KB.out _ BB2.out) (fun hHeld => ?_)
              clear hK K
              try simp only [Act.put, List.setIfInBounds_toArray, List.set_cons_zero, List.set_cons_succ]
              refine tk 18 178 (.bool false) hHeld rfl (by kernel_rfl) (by kernel_rfl) (by kernel_rfl) (fun _ _ _ h => h) (Or.inl ⟨by rfl, ?_⟩) ?_
              · rintro w ⟨⟨q0, q1⟩, q2, q3⟩
                go_simp <;> (first | done | (intro _; omega))
              try simp only [Act.put, List.setIfInBounds_toArray, List.set_cons_zero, List.set_cons_succ]
              refine tk 19 179 (.bool false) hHeld rfl (by kernel_rfl) (by kernel_rfl) (by kernel_rfl) (fun _ _ _ h => h) (Or.inl ⟨by rfl, ?_⟩) ?_
              · rintro w ⟨⟨q0, q1⟩, q2, q3⟩
                go_simp <;> (first | done | (intro _; omega))
              try simp only [Act.put, List.setIfInBounds_toArray, List.set_cons_zero, List.set_cons_succ]
              refine tk 20 180 (.bool false) hHeld rfl (by kernel_rfl) (by kernel_rfl) (by kernel_rfl) (fun _ _ _ h => h) (Or.inl ⟨by rfl, ?_⟩) ?_
              · rintro w ⟨⟨q0, q1⟩, q2, q3⟩
                go_simp <;> (first | done | (intro _; omega))
              try simp only [Act.put, List.setIfInBounds_toArray, List.set_cons_zero, List.set_cons_succ]
              refine wpAnyH_done (by kernel_rfl) ?_ _
              go_wp2_with fail
              go_meet
              case rel => exact ⟨rfl, hide (BB2.out)⟩
          case rest =>
            obtain ⟨rfl, HQ3⟩ := hcut
            have HS3 := hide (below_next HS2.out HQ3.out)
            clear HQ3
            obtain ⟨WC3, hwc⟩ : ∃ x, x = wc := ⟨_, rfl⟩
            subst hwc
            have KB : Hid (∀ w' : World, Below WC3.heap.size WC3 w' → (w'.cell? ⟨b3, 1, none⟩ = some (.int .i64 ra) ∧ w'.cell? ⟨b3, 2, none⟩ = some (.slice aa VA.length ac)) ∧ w'.cell? ⟨b4, 2, none⟩ = some (.slice ba VB.length bc) ∧ w'.cell? ⟨b5, 2, none⟩ = some (.slice ca VC.length cc)) := hide (fun w' hb' => ⟨⟨((X3.out.below HS3.out).below hb').1.2.1, ((X3.out.below HS3.out).below hb').1.2.2⟩, ((X4.out.below HS3.out).below hb').1.2.2, ((X5.out.below HS3.out).below hb').1.2.2⟩)
            have HRA := hide (RA.out.below HS3.out)
            have HRB := hide (RB.out.below HS3.out)
            have HRC := hide (RC.out.below HS3.out)
            have HB5 := hide (below_next BV8.out HS3.out)
            have hqq : (ra == ra) = true := by simp
            clear HVW HSE RA RB RC RX RY RZ X3 X4 X5 X6 X7 X8 E1 E2 E3
            go_upto_region 19 with fail
            refine wp_region_held_drew (S := fun w' => (w'.cell? ⟨b3, 1, none⟩ = some (.int .i64 ra) ∧ w'.cell? ⟨b3, 2, none⟩ = some (.slice aa VA.length ac)) ∧ w'.cell? ⟨b4, 2, none⟩ = some (.slice ba VB.length bc) ∧ w'.cell? ⟨b5, 2, none⟩ = some (.slice ca VC.length cc)) (by kernel_rfl) (KB.out _ (Below.refl WC3.heap.size WC3).drew) (fun hHeld => ?_)
            change wpAnyH _ _ _ _ _ _ (Array.replicate _ false) _ _
            refine tk 0 181 (.pointer (some ⟨b3, 2, none⟩)) hHeld rfl (by kernel_rfl) (by kernel_rfl) (by kernel_rfl) (fun _ _ _ h => h) (Or.inl ⟨by rfl, ?_⟩) ?_
            · rintro w ⟨⟨q0, q1⟩, q2, q3⟩
              go_simp <;> (first | done | (intro _; omega))
            try simp only [Act.put, List.setIfInBounds_toArray, List.set_cons_zero, List.set_cons_succ]
            refine tk 1 182 (.slice aa VA.length ac) hHeld rfl (by kernel_rfl) (by kernel_rfl) (by kernel_rfl) (fun _ _ _ h => h) (Or.inl ⟨by rfl, ?_⟩) ?_
            · rintro w ⟨⟨q0, q1⟩, q2, q3⟩
              go_simp <;> (first | done | (intro _; omega))
            try simp only [Act.put, List.setIfInBounds_toArray, List.set_cons_zero, List.set_cons_succ]
            refine wpAnyH_ready (rs := [2]) (by kernel_rfl) (by simp) ?_
            refine AllReadyH.cons rfl (fun K hK => ?_) AllReadyH.nil
            go_simp
            refine (HLF.out VA aa ac _ (HRA.out.below (Below.refl WC3.heap.size WC3).drew) f2 HAS.out HF1.out).mono ?_
            rintro r w11 ⟨rfl, hb11⟩
            have BB11 := hide (below_next ((Below.refl WC3.heap.size WC3).drew) hb11)
            clear hb11
            go_wp2_with fail
            refine hK.out _ _ (KB.out _ BB11.out) (fun hHeld => ?_)
            clear hK K
            try simp only [Act.put, List.setIfInBounds_toArray, List.set_cons_zero, List.set_cons_succ]
            refine tk 3 184 (.bool true) hHeld rfl (by kernel_rfl) (by kernel_rfl) (by kernel_rfl) (fun _ _ _ h => h) (Or.inl ⟨by rfl, ?_⟩) ?_
            · rintro w ⟨⟨q0, q1⟩, q2, q3⟩
              go_simp <;> (first | done | (intro _; omega))
            try simp only [Act.put, List.setIfInBounds_toArray, List.set_cons_zero, List.set_cons_succ]
            refine tk 4 185 (.bool true) hHeld rfl (by kernel_rfl) (by kernel_rfl) (by kernel_rfl) (fun _ _ _ h => h) (Or.inl ⟨by rfl, ?_⟩) ?_
            · rintro w ⟨⟨q0, q1⟩, q2, q3⟩
              go_simp <;> (first | done | (intro _; omega))
            try simp only [Act.put, List.setIfInBounds_toArray, List.set_cons_zero, List.set_cons_succ]
            refine tk 5 186 (.pointer (some ⟨b4, 2, none⟩)) hHeld rfl (by kernel_rfl) (by kernel_rfl) (by kernel_rfl) (fun _ _ _ h => h) (Or.inl ⟨by rfl, ?_⟩) ?_
            · rintro w ⟨⟨q0, q1⟩, q2, q3⟩
              go_simp <;> (first | done | (intro _; omega))
            try simp only [Act.put, List.setIfInBounds_toArray, List.set_cons_zero, List.set_cons_succ]
            refine tk 6 187 (.slice ba VB.length bc) hHeld rfl (by kernel_rfl) (by kernel_rfl) (by kernel_rfl) (fun _ _ _ h => h) (Or.inl ⟨by rfl, ?_⟩) ?_
            · rintro w ⟨⟨q0, q1⟩, q2, q3⟩
              go_simp <;> (first | done | (intro _; omega))
            try simp only [Act.put, List.setIfInBounds_toArray, List.set_cons_zero, List.set_cons_succ]
            refine wpAnyH_ready (rs := [7]) (by kernel_rfl) (by simp) ?_
            refine AllReadyH.cons rfl (fun K hK => ?_) AllReadyH.nil
            go_simp
            refine (HLF.out VB ba bc _ (HRB.out.below BB11.out) g2 HBS.out HF2.out).mono ?_
            rintro r w12 ⟨rfl, hb12⟩
            have BB12 := hide (below_next (BB11.out) hb12)
            clear hb12
            go_wp2_with fail
            refine hK.out _ _ (KB.out _ BB12.out) (fun hHeld => ?_)
            clear hK K
            try simp only [Act.put, List.setIfInBounds_toArray, List.set_cons_zero, List.set_cons_succ]
            refine tk 8 189 (.bool true) hHeld rfl (by kernel_rfl) (by kernel_rfl) (by kernel_rfl) (fun _ _ _ h => h) (Or.inl ⟨by rfl, ?_⟩) ?_
            · rintro w ⟨⟨q0, q1⟩, q2, q3⟩
              go_simp <;> (first | done | (intro _; omega))
            try simp only [Act.put, List.setIfInBounds_toArray, List.set_cons_zero, List.set_cons_succ]
            refine tk 9 190 (.bool true) hHeld rfl (by kernel_rfl) (by kernel_rfl) (by kernel_rfl) (fun _ _ _ h => h) (Or.inl ⟨by rfl, ?_⟩) ?_
            · rintro w ⟨⟨q0, q1⟩, q2, q3⟩
              go_simp <;> (first | done | (intro _; omega))
            try simp only [Act.put, List.setIfInBounds_toArray, List.set_cons_zero, List.set_cons_succ]
            refine tk 10 191 (.bool true) hHeld rfl (by kernel_rfl) (by kernel_rfl) (by kernel_rfl) (fun _ _ _ h => h) (Or.inl ⟨by rfl, ?_⟩) ?_
            · rintro w ⟨⟨q0, q1⟩, q2, q3⟩
              go_simp <;> (first | done | (intro _; omega))
            try simp only [Act.put, List.setIfInBounds_toArray, List.set_cons_zero, List.set_cons_succ]
            refine tk 11 192 (.pointer (some ⟨b5, 2, none⟩)) hHeld rfl (by kernel_rfl) (by kernel_rfl) (by kernel_rfl) (fun _ _ _ h => h) (Or.inl ⟨by rfl, ?_⟩) ?_
            · rintro w ⟨⟨q0, q1⟩, q2, q3⟩
              go_simp <;> (first | done | (intro _; omega))
            try simp only [Act.put, List.setIfInBounds_toArray, List.set_cons_zero, List.set_cons_succ]
            refine tk 12 193 (.slice ca VC.length cc) hHeld rfl (by kernel_rfl) (by kernel_rfl) (by kernel_rfl) (fun _ _ _ h => h) (Or.inl ⟨by rfl, ?_⟩) ?_
            · rintro w ⟨⟨q0, q1⟩, q2, q3⟩
              go_simp <;> (first | done | (intro _; omega))
            try simp only [Act.put, List.setIfInBounds_toArray, List.set_cons_zero, List.set_cons_succ]
            refine wpAnyH_ready (rs := [13]) (by kernel_rfl) (by simp) ?_
            refine AllReadyH.cons rfl (fun K hK => ?_) AllReadyH.nil
            go_simp
            refine (HLF.out VC ca cc _ (HRC.out.below BB12.out) i2 HCS.out HF3.out).mono ?_
            rintro r w13 ⟨rfl, hb13⟩
            have BB13 := hide (below_next (BB12.out) hb13)
            clear hb13
            go_wp2_with fail
            refine hK.out _ _ (KB.out _ BB13.out) (fun hHeld => ?_)
            clear hK K
            try simp only [Act.put, List.setIfInBounds_toArray, List.set_cons_zero, List.set_cons_succ]
            refine tk 14 195 (.bool true) hHeld rfl (by kernel_rfl) (by kernel_rfl) (by kernel_rfl) (fun _ _ _ h => h) (Or.inl ⟨by rfl, ?_⟩) ?_
            · rintro w ⟨⟨q0, q1⟩, q2, q3⟩
              go_simp <;> (first | done | (intro _; omega))
            try simp only [Act.put, List.setIfInBounds_toArray, List.set_cons_zero, List.set_cons_succ]
            refine tk 15 196 (.bool true) hHeld rfl (by kernel_rfl) (by kernel_rfl) (by kernel_rfl) (fun _ _ _ h => h) (Or.inl ⟨by rfl, ?_⟩) ?_
            · rintro w ⟨⟨q0, q1⟩, q2, q3⟩
              go_simp <;> (first | done | (intro _; omega))
            try simp only [Act.put, List.setIfInBounds_toArray, List.set_cons_zero, List.set_cons_succ]
            refine tk 16 197 (.bool true) hHeld rfl (by kernel_rfl) (by kernel_rfl) (by kernel_rfl) (fun _ _ _ h => h) (Or.inl ⟨by rfl, ?_⟩) ?_
            · rintro w ⟨⟨q0, q1⟩, q2, q3⟩
              go_simp <;> (first | done | (intro _; omega))
            try simp only [Act.put, List.setIfInBounds_toArray, List.set_cons_zero, List.set_cons_succ]
            refine tk 17 198 (.pointer (some ⟨b3, 1, none⟩)) hHeld rfl (by kernel_rfl) (by kernel_rfl) (by kernel_rfl) (fun _ _ _ h => h) (Or.inl ⟨by rfl, ?_⟩) ?_
            · rintro w ⟨⟨q0, q1⟩, q2, q3⟩
              go_simp <;> (first | done | (intro _; omega))
            try simp only [Act.put, List.setIfInBounds_toArray, List.set_cons_zero, List.set_cons_succ]
            refine tk 18 199 (.int .i64 ra) hHeld rfl (by kernel_rfl) (by kernel_rfl) (by kernel_rfl) (fun _ _ _ h => h) (Or.inl ⟨by rfl, ?_⟩) ?_
            · rintro w ⟨⟨q0, q1⟩, q2, q3⟩
              go_simp <;> (first | done | (intro _; omega))
            try simp only [Act.put, List.setIfInBounds_toArray, List.set_cons_zero, List.set_cons_succ]
            refine tk 19 200 (.slice av ls.length cv) hHeld rfl (by kernel_rfl) (by kernel_rfl) (by kernel_rfl) (fun _ _ _ h => h) (Or.inl ⟨by rfl, ?_⟩) ?_
            · rintro w ⟨⟨q0, q1⟩, q2, q3⟩
              go_simp <;> (first | done | (intro _; omega))
            try simp only [Act.put, List.setIfInBounds_toArray, List.set_cons_zero, List.set_cons_succ]
            refine tk 20 201 (.slice ua U.length uc) hHeld rfl (by kernel_rfl) (by kernel_rfl) (by kernel_rfl) (fun _ _ _ h => h) (Or.inl ⟨by rfl, ?_⟩) ?_
            · rintro w ⟨⟨q0, q1⟩, q2, q3⟩
              go_simp <;> (first | done | (intro _; omega))
            try simp only [Act.put, List.setIfInBounds_toArray, List.set_cons_zero, List.set_cons_succ]
            refine tk 21 202 (.string (str p)) hHeld rfl (by kernel_rfl) (by kernel_rfl) (by kernel_rfl) (fun _ _ _ h => h) (Or.inl ⟨by rfl, ?_⟩) ?_
            · rintro w ⟨⟨q0, q1⟩, q2, q3⟩
              go_simp <;> (first | done | (intro _; omega))
            try simp only [Act.put, List.setIfInBounds_toArray, List.set_cons_zero, List.set_cons_succ]
            refine tk 22 203 (.slice da ds.length dc) hHeld rfl (by kernel_rfl) (by kernel_rfl) (by kernel_rfl) (fun _ _ _ h => h) (Or.inl ⟨by rfl, ?_⟩) ?_
            · rintro w ⟨⟨q0, q1⟩, q2, q3⟩
              go_simp <;> (first | done | (intro _; omega))
            try simp only [Act.put, List.setIfInBounds_toArray, List.set_cons_zero, List.set_cons_succ]
            refine wpAnyH_ready (rs := [23]) (by kernel_rfl) (by simp) ?_
            refine AllReadyH.cons rfl (fun K hK => ?_) AllReadyH.nil
            go_simp
            refine (HSW.out _ (below_next HB5.out BB13.out)).mono ?_
            rintro r w14 ⟨s1, s2, rfl, hb14⟩
            have BB14 := hide (below_next BB13.out hb14)
            clear hb14
            go_wp2_with fail
            refine hK.out _ _ (KB.out _ BB14.out) (fun hHeld => ?_)
            clear hK K
            try simp only [Act.put, List.setIfInBounds_toArray, List.set_cons_zero, List.set_cons_succ]
            refine tk 24 205 (.int .i64 ra) hHeld rfl (by kernel_rfl) (by kernel_rfl) (by kernel_rfl) (fun _ _ _ h => h) (Or.inl ⟨by rfl, ?_⟩) ?_
            · rintro w ⟨⟨q0, q1⟩, q2, q3⟩
              go_simp <;> (first | done | (intro _; omega))
            try simp only [Act.put, List.setIfInBounds_toArray, List.set_cons_zero, List.set_cons_succ]
            refine tk 25 206 (.bool true) hHeld rfl (by kernel_rfl) (by kernel_rfl) (by kernel_rfl) (fun _ _ _ h => h) (Or.inl ⟨by rfl, ?_⟩) ?_
            · rintro w ⟨⟨q0, q1⟩, q2, q3⟩
              go_simp <;> (first | done | (intro _; omega))
            try simp only [Act.put, List.setIfInBounds_toArray, List.set_cons_zero, List.set_cons_succ]
            refine tk 26 207 (.bool true) hHeld rfl (by kernel_rfl) (by kernel_rfl) (by kernel_rfl) (fun _ _ _ h => h) (Or.inl ⟨by rfl, ?_⟩) ?_
            · rintro w ⟨⟨q0, q1⟩, q2, q3⟩
              go_simp <;> (first | done | (intro _; omega))
            try simp only [Act.put, List.setIfInBounds_toArray, List.set_cons_zero, List.set_cons_succ]
            refine tk 27 208 (.bool true) hHeld rfl (by kernel_rfl) (by kernel_rfl) (by kernel_rfl) (fun _ _ _ h => h) (Or.inl ⟨by rfl, ?_⟩) ?_
            · rintro w ⟨⟨q0, q1⟩, q2, q3⟩
              go_simp <;> (first | done | (intro _; omega))
            try simp only [Act.put, List.setIfInBounds_toArray, List.set_cons_zero, List.set_cons_succ]
            refine tk 28 209 (.pointer (some ⟨b3, 2, none⟩)) hHeld rfl (by kernel_rfl) (by kernel_rfl) (by kernel_rfl) (fun _ _ _ h => h) (Or.inl ⟨by rfl, ?_⟩) ?_
            · rintro w ⟨⟨q0, q1⟩, q2, q3⟩
              go_simp <;> (first | done | (intro _; omega))
            try simp only [Act.put, List.setIfInBounds_toArray, List.set_cons_zero, List.set_cons_succ]
            refine tk 29 210 (.slice aa VA.length ac) hHeld rfl (by kernel_rfl) (by kernel_rfl) (by kernel_rfl) (fun _ _ _ h => h) (Or.inl ⟨by rfl, ?_⟩) ?_
            · rintro w ⟨⟨q0, q1⟩, q2, q3⟩
              go_simp <;> (first | done | (intro _; omega))
            try simp only [Act.put, List.setIfInBounds_toArray, List.set_cons_zero, List.set_cons_succ]
            refine tk 30 211 (.int .i64 (VA.length : Int)) hHeld rfl (by kernel_rfl) (by kernel_rfl) (by kernel_rfl) (fun _ _ _ h => h) (Or.inl ⟨by rfl, ?_⟩) ?_
            · rintro w ⟨⟨q0, q1⟩, q2, q3⟩
              go_simp <;> (first | done | (intro _; omega))
            try simp only [Act.put, List.setIfInBounds_toArray, List.set_cons_zero, List.set_cons_succ]
            refine tk 31 212 (.slice av ls.length cv) hHeld rfl (by kernel_rfl) (by kernel_rfl) (by kernel_rfl) (fun _ _ _ h => h) (Or.inl ⟨by rfl, ?_⟩) ?_
            · rintro w ⟨⟨q0, q1⟩, q2, q3⟩
              go_simp <;> (first | done | (intro _; omega))
            try simp only [Act.put, List.setIfInBounds_toArray, List.set_cons_zero, List.set_cons_succ]
            refine tk 32 213 (.slice ua U.length uc) hHeld rfl (by kernel_rfl) (by kernel_rfl) (by kernel_rfl) (fun _ _ _ h => h) (Or.inl ⟨by rfl, ?_⟩) ?_
            · rintro w ⟨⟨q0, q1⟩, q2, q3⟩
              go_simp <;> (first | done | (intro _; omega))
            try simp only [Act.put, List.setIfInBounds_toArray, List.set_cons_zero, List.set_cons_succ]
            refine tk 33 214 (.string (str p)) hHeld rfl (by kernel_rfl) (by kernel_rfl) (by kernel_rfl) (fun _ _ _ h => h) (Or.inl ⟨by rfl, ?_⟩) ?_
            · rintro w ⟨⟨q0, q1⟩, q2, q3⟩
              go_simp <;> (first | done | (intro _; omega))
            try simp only [Act.put, List.setIfInBounds_toArray, List.set_cons_zero, List.set_cons_succ]
            refine tk 34 215 (.slice da ds.length dc) hHeld rfl (by kernel_rfl) (by kernel_rfl) (by kernel_rfl) (fun _ _ _ h => h) (Or.inl ⟨by rfl, ?_⟩) ?_
            · rintro w ⟨⟨q0, q1⟩, q2, q3⟩
              go_simp <;> (first | done | (intro _; omega))
            try simp only [Act.put, List.setIfInBounds_toArray, List.set_cons_zero, List.set_cons_succ]
            refine wpAnyH_ready (rs := [35]) (by kernel_rfl) (by simp) ?_
            refine AllReadyH.cons rfl (fun K hK => ?_) AllReadyH.nil
            go_simp
            refine (HSW.out _ (below_next HB5.out BB14.out)).mono ?_
            rintro r w15 ⟨s3, s4, rfl, hb15⟩
            have BB15 := hide (below_next BB14.out hb15)
            clear hb15
            go_wp2_with fail
            refine hK.out _ _ (KB.out _ BB15.out) (fun hHeld => ?_)
            clear hK K
            try simp only [Act.put, List.setIfInBounds_toArray, List.set_cons_zero, List.set_cons_succ]
            refine tk 36 217 (.slice s3 VA.length s4) hHeld rfl (by kernel_rfl) (by kernel_rfl) (by kernel_rfl) (fun _ _ _ h => h) (Or.inl ⟨by rfl, ?_⟩) ?_
            · rintro w ⟨⟨q0, q1⟩, q2, q3⟩
              go_simp <;> (first | done | (intro _; omega))
            try simp only [Act.put, List.setIfInBounds_toArray, List.set_cons_zero, List.set_cons_succ]
            refine tk 37 218 (.int .i64 (VA.length : Int)) hHeld rfl (by kernel_rfl) (by kernel_rfl) (by kernel_rfl) (fun _ _ _ h => h) (Or.inl ⟨by rfl, ?_⟩) ?_
            · rintro w ⟨⟨q0, q1⟩, q2, q3⟩
              go_simp <;> (first | done | (intro _; omega))
            try simp only [Act.put, List.setIfInBounds_toArray, List.set_cons_zero, List.set_cons_succ]
            refine tk 38 219 (.bool true) hHeld rfl (by kernel_rfl) (by kernel_rfl) (by kernel_rfl) (fun _ _ _ h => h) (Or.inl ⟨by rfl, ?_⟩) ?_
            · rintro w ⟨⟨q0, q1⟩, q2, q3⟩
              go_simp <;> (first | done | (intro _; omega))
            try simp only [Act.put, List.setIfInBounds_toArray, List.set_cons_zero, List.set_cons_succ]
            refine tk 39 220 (.bool true) hHeld rfl (by kernel_rfl) (by kernel_rfl) (by kernel_rfl) (fun _ _ _ h => h) (Or.inl ⟨by rfl, ?_⟩) ?_
            · rintro w ⟨⟨q0, q1⟩, q2, q3⟩
              go_simp <;> (first | done | (intro _; omega))
            try simp only [Act.put, List.setIfInBounds_toArray, List.set_cons_zero, List.set_cons_succ]
            refine tk 40 2 (.bool true) hHeld rfl (by kernel_rfl) (by kernel_rfl) (by kernel_rfl) (fun _ _ _ h => h) (Or.inl ⟨by rfl, ?_⟩) ?_
            · rintro w ⟨⟨q0, q1⟩, q2, q3⟩
              go_simp <;> (first | done | (intro _; omega))
            try simp only [Act.put, List.setIfInBounds_toArray, List.set_cons_zero, List.set_cons_succ]
            refine wpAnyH_done (by kernel_rfl) ?_ _
            go_wp2_with fail
            go_ret
            exact ⟨rfl, below_next (below_next B8.out HS3.out) BB15.out⟩
    · have HCW := hide (fun (u : World) (hu : Below W5.heap.size W5 u) => specWriteOver_any av cv ls.length ls ua uc U.length U p ds da ds.length dc u (RL.out.below hu) rfl (by omega) (RU.out.below hu) rfl HAL.out HGD.out hpl (RD.out.below hu) rfl HDU.out hdc (by omega))
      have HSW : Hid (∀ u : World, Below W5.heap.size W5 u → Calls Tryz.prog 11 #[.slice av ls.length cv, .slice ua U.length uc, .string (str p), .slice da ds.length dc] u fun r w' => ∃ x1 x2, r = .returned (.agg #[.int .i64 qa, x1, x2]) ∧ Below u.heap.size u w') := hide (fun u hu => by
        refine (HCW.out u hu).mono ?_
        rintro r w' ⟨q2, rep2, V2, hf, xa, xc, rfl, -, hb⟩
        obtain ⟨rfl, -, -⟩ := wov_same HOA.out hf
        exact ⟨_, _, rfl, hb⟩)
      have HSR : Hid (∀ u : World, Below W5.heap.size W5 u → Calls Tryz.prog 12 #[.slice av ls.length cv, .slice ua U.length uc, .string (str p)] u fun r w' => ∃ x1 x2, r = .returned (.agg #[.int .i64 qc, x1, x2]) ∧ Below u.heap.size u w') := hide (fun u hu => by
        refine (specRemoveOver_any av cv ls.length ls ua uc U.length U p u (RL.out.below hu) rfl (by omega) (RU.out.below hu) rfl HAL.out HGD.out hpl).mono ?_
        rintro r w' ⟨q2, rep2, V2, hf, xa, xc, rfl, -, hb⟩
        obtain rfl : qc = q2 := (rov_code HOC.out).trans (face_code hf).symm
        exact ⟨_, _, rfl, hb⟩)
      have HSK : Hid (∀ u : World, Below W5.heap.size W5 u → Calls Tryz.prog 14 #[.slice av ls.length cv, .slice ua U.length uc, .string (str p)] u fun r w' => ∃ x1 x2, r = .returned (.agg #[.int .i64 qb, x1, x2]) ∧ Below u.heap.size u w') := hide (fun u hu => by
        refine (specMakeOver_any av cv ls.length ls ua uc U.length U p u (RL.out.below hu) rfl (by omega) (RU.out.below hu) rfl HAL.out HGD.out hpl).mono ?_
        rintro r w' ⟨q2, rep2, V2, hf, xa, xc, rfl, -, hb⟩
        obtain rfl : qb = q2 := (mov_code HOB.out).trans (face_code hf).symm
        exact ⟨_, _, rfl, hb⟩)
      have HSV : Hid (∀ u : World, Below W5.heap.size W5 u → Calls Tryz.prog 13 #[.slice av ls.length cv, .slice ua U.length uc] u fun r w' => ∃ x1 x2, r = .returned (.agg #[.int .i64 C, x1, x2]) ∧ Below u.heap.size u w') := hide (fun u hu => by
        have h1 := specViewOver_any av cv ls.length ls ua uc U.length U u (RL.out.below hu) rfl (by omega) (RU.out.below hu) rfl HAL.out HGD.out
        rw [← HC.out] at h1
        exact h1.mono (fun r w' ⟨tv, tc2, h2, _, h4⟩ => ⟨_, _, h2, h4⟩))
      have hfm : ∀ (w : World) (q : Int) (u v : Value), (Instr.field 32 (.agg #[.int .i64 q, u, v]) 0).run Tryz.prog w = .ok (.int .i64 q) w := fun _ _ _ _ => by kernel_rfl
      have hft : ∀ (w : World) (q : Int) (u v : Value), (Instr.field 29 (.agg #[.int .i64 q, u, v]) 0).run Tryz.prog w = .ok (.int .i64 q) w := fun _ _ _ _ => by kernel_rfl
      have KB : Hid (∀ w' : World, Below W5.heap.size W5 w' → (w'.cell? ⟨b2, 0, none⟩ = some (.int .i64 C) ∧ w'.cell? ⟨b3, 0, none⟩ = some (.int .i64 qa)) ∧ w'.cell? ⟨b4, 0, none⟩ = some (.int .i64 qb) ∧ w'.cell? ⟨b5, 0, none⟩ = some (.int .i64 qc)) := hide (fun w' hb' => ⟨⟨(X2.out.below hb').1.1, (X3.out.below hb').1.1⟩, (X4.out.below hb').1.1, (X5.out.below hb').1.1⟩)
      clear HCW HOA HOB HOC HC HT HAL HGD HSU HSL HDU RT RU RL RD RA RB RC X2 X3 X4 X5 HVV
      go_cut [56] from 39 to 56 (fun vv wc => vv = .bool true ∧ Hid (Below W5.heap.size W5 wc))
      case first =>
        obtain ⟨⟨q0, q1⟩, q2, q3⟩ := KB.out W5 (Below.refl _ _)
        by_cases c1 : C = 0
        · by_cases c2 : qa = 0
          · by_cases c3 : qb = 0
            · have c4 : (qc != 0) = true := by simp; exact fun e => hok ⟨⟨c1, c2⟩, c3, e⟩
              clear hok
              subst c1
              subst c2
              subst c3
              go_wp2_with fail
              go_meet
              case rel => exact ⟨rfl, hide (Below.refl _ _)⟩
            · have c4 : (qb != 0) = true := by simpa using c3
              clear hok c3
              subst c1
              subst c2
              go_wp2_with fail
              go_meet
              case rel => exact ⟨rfl, hide (Below.refl _ _)⟩
          · have c4 : (qa != 0) = true := by simpa using c2
            clear hok c2
            subst c1
            go_wp2_with fail
            go_meet
            case rel => exact ⟨rfl, hide (Below.refl _ _)⟩
        · have c4 : (C != 0) = true := by simpa using c1
          clear hok c1
          go_wp2_with fail
          go_meet
          case rel => exact ⟨rfl, hide (Below.refl _ _)⟩
      case rest =>
        obtain ⟨rfl, HQ⟩ := hcut
        have e1 : (C == C) = true := by simp
        have e2 : (qa == qa) = true := by simp
        have e3 : (qb == qb) = true := by simp
        have e4 : (qc == qc) = true := by simp
        clear hok
        go_upto_region 9 with fail
        refine wp_region_held_drew (S := fun w' => (w'.cell? ⟨b2, 0, none⟩ = some (.int .i64 C) ∧ w'.cell? ⟨b3, 0, none⟩ = some (.int .i64 qa)) ∧ w'.cell? ⟨b4, 0, none⟩ = some (.int .i64 qb) ∧ w'.cell? ⟨b5, 0, none⟩ = some (.int .i64 qc)) (by kernel_rfl) (KB.out _ HQ.out.drew) (fun hHeld => ?_)
        change wpAnyH _ _ _ _ _ _ (Array.replicate _ false) _ _
        refine tk 0 57 (.slice av ls.length cv) hHeld rfl (by kernel_rfl) (by kernel_rfl) (by kernel_rfl) (fun _ _ _ h => h) (Or.inl ⟨by rfl, ?_⟩) ?_
        · rintro w ⟨⟨q0, q1⟩, q2, q3⟩
          go_simp <;> (first | done | (intro _; omega))
        try simp only [Act.put, List.setIfInBounds_toArray, List.set_cons_zero, List.set_cons_succ]
        refine tk 1 58 (.slice ua U.length uc) hHeld rfl (by kernel_rfl) (by kernel_rfl) (by kernel_rfl) (fun _ _ _ h => h) (Or.inl ⟨by rfl, ?_⟩) ?_
        · rintro w ⟨⟨q0, q1⟩, q2, q3⟩
          go_simp <;> (first | done | (intro _; omega))
        try simp only [Act.put, List.setIfInBounds_toArray, List.set_cons_zero, List.set_cons_succ]
        refine tk 2 59 (.string (str p)) hHeld rfl (by kernel_rfl) (by kernel_rfl) (by kernel_rfl) (fun _ _ _ h => h) (Or.inl ⟨by rfl, ?_⟩) ?_
        · rintro w ⟨⟨q0, q1⟩, q2, q3⟩
          go_simp <;> (first | done | (intro _; omega))
        try simp only [Act.put, List.setIfInBounds_toArray, List.set_cons_zero, List.set_cons_succ]
        refine tk 3 60 (.slice da ds.length dc) hHeld rfl (by kernel_rfl) (by kernel_rfl) (by kernel_rfl) (fun _ _ _ h => h) (Or.inl ⟨by rfl, ?_⟩) ?_
        · rintro w ⟨⟨q0, q1⟩, q2, q3⟩
          go_simp <;> (first | done | (intro _; omega))
        try simp only [Act.put, List.setIfInBounds_toArray, List.set_cons_zero, List.set_cons_succ]
        refine tk 6 63 (.pointer (some ⟨b3, 0, none⟩)) hHeld rfl (by kernel_rfl) (by kernel_rfl) (by kernel_rfl) (fun _ _ _ h => h) (Or.inl ⟨by rfl, ?_⟩) ?_
        · rintro w ⟨⟨q0, q1⟩, q2, q3⟩
          go_simp <;> (first | done | (intro _; omega))
        try simp only [Act.put, List.setIfInBounds_toArray, List.set_cons_zero, List.set_cons_succ]
        refine tk 7 64 (.int .i64 qa) hHeld rfl (by kernel_rfl) (by kernel_rfl) (by kernel_rfl) (fun _ _ _ h => h) (Or.inl ⟨by rfl, ?_⟩) ?_
        · rintro w ⟨⟨q0, q1⟩, q2, q3⟩
          go_simp <;> (first | done | (intro _; omega))
        try simp only [Act.put, List.setIfInBounds_toArray, List.set_cons_zero, List.set_cons_succ]
        refine wpAnyH_ready (rs := [4]) (by kernel_rfl) (by simp) ?_
        refine AllReadyH.cons rfl (fun K hK => ?_) AllReadyH.nil
        go_simp
        refine (HSW.out _ (HQ.out.drew)).mono ?_
        rintro r w11 ⟨x11, y11, rfl, hb11⟩
        have BB11 := hide (below_next (HQ.out.drew) hb11)
        clear hb11
        go_wp2_with fail
        refine hK.out _ _ (KB.out _ BB11.out) (fun hHeld => ?_)
        clear hK K
        try simp only [Act.put, List.setIfInBounds_toArray, List.set_cons_zero, List.set_cons_succ]
        refine tk 5 62 (.int .i64 qa) hHeld rfl (by kernel_rfl) (by kernel_rfl) (by kernel_rfl) (fun _ _ _ h => h) (Or.inl ⟨by rfl, ?_⟩) ?_
        · rintro w ⟨⟨q0, q1⟩, q2, q3⟩
          go_simp <;> (first | done | (intro _; omega))
        try simp only [Act.put, List.setIfInBounds_toArray, List.set_cons_zero, List.set_cons_succ]
        refine tk 8 65 (.bool true) hHeld rfl (by kernel_rfl) (by kernel_rfl) (by kernel_rfl) (fun _ _ _ h => h) (Or.inl ⟨by rfl, ?_⟩) ?_
        · rintro w ⟨⟨q0, q1⟩, q2, q3⟩
          go_simp <;> (first | done | (intro _; omega))
        try simp only [Act.put, List.setIfInBounds_toArray, List.set_cons_zero, List.set_cons_succ]
        refine tk 9 66 (.bool true) hHeld rfl (by kernel_rfl) (by kernel_rfl) (by kernel_rfl) (fun _ _ _ h => h) (Or.inl ⟨by rfl, ?_⟩) ?_
        · rintro w ⟨⟨q0, q1⟩, q2, q3⟩
          go_simp <;> (first | done | (intro _; omega))
        try simp only [Act.put, List.setIfInBounds_toArray, List.set_cons_zero, List.set_cons_succ]
        refine tk 10 67 (.slice av ls.length cv) hHeld rfl (by kernel_rfl) (by kernel_rfl) (by kernel_rfl) (fun _ _ _ h => h) (Or.inl ⟨by rfl, ?_⟩) ?_
        · rintro w ⟨⟨q0, q1⟩, q2, q3⟩
          go_simp <;> (first | done | (intro _; omega))
        try simp only [Act.put, List.setIfInBounds_toArray, List.set_cons_zero, List.set_cons_succ]
        refine tk 11 68 (.slice ua U.length uc) hHeld rfl (by kernel_rfl) (by kernel_rfl) (by kernel_rfl) (fun _ _ _ h => h) (Or.inl ⟨by rfl, ?_⟩) ?_
        · rintro w ⟨⟨q0, q1⟩, q2, q3⟩
          go_simp <;> (first | done | (intro _; omega))
        try simp only [Act.put, List.setIfInBounds_toArray, List.set_cons_zero, List.set_cons_succ]
        refine tk 12 69 (.string (str p)) hHeld rfl (by kernel_rfl) (by kernel_rfl) (by kernel_rfl) (fun _ _ _ h => h) (Or.inl ⟨by rfl, ?_⟩) ?_
        · rintro w ⟨⟨q0, q1⟩, q2, q3⟩
          go_simp <;> (first | done | (intro _; omega))
        try simp only [Act.put, List.setIfInBounds_toArray, List.set_cons_zero, List.set_cons_succ]
        refine tk 15 72 (.pointer (some ⟨b5, 0, none⟩)) hHeld rfl (by kernel_rfl) (by kernel_rfl) (by kernel_rfl) (fun _ _ _ h => h) (Or.inl ⟨by rfl, ?_⟩) ?_
        · rintro w ⟨⟨q0, q1⟩, q2, q3⟩
          go_simp <;> (first | done | (intro _; omega))
        try simp only [Act.put, List.setIfInBounds_toArray, List.set_cons_zero, List.set_cons_succ]
        refine tk 16 73 (.int .i64 qc) hHeld rfl (by kernel_rfl) (by kernel_rfl) (by kernel_rfl) (fun _ _ _ h => h) (Or.inl ⟨by rfl, ?_⟩) ?_
        · rintro w ⟨⟨q0, q1⟩, q2, q3⟩
          go_simp <;> (first | done | (intro _; omega))
        try simp only [Act.put, List.setIfInBounds_toArray, List.set_cons_zero, List.set_cons_succ]
        refine wpAnyH_ready (rs := [13]) (by kernel_rfl) (by simp) ?_
        refine AllReadyH.cons rfl (fun K hK => ?_) AllReadyH.nil
        go_simp
        refine (HSR.out _ (BB11.out)).mono ?_
        rintro r w12 ⟨x12, y12, rfl, hb12⟩
        have BB12 := hide (below_next (BB11.out) hb12)
        clear hb12
        go_wp2_with fail
        refine hK.out _ _ (KB.out _ BB12.out) (fun hHeld => ?_)
        clear hK K
        try simp only [Act.put, List.setIfInBounds_toArray, List.set_cons_zero, List.set_cons_succ]
        refine tk 14 71 (.int .i64 qc) hHeld rfl (by kernel_rfl) (by kernel_rfl) (by kernel_rfl) (fun _ _ _ h => h) (Or.inl ⟨by rfl, ?_⟩) ?_
        · rintro w ⟨⟨q0, q1⟩, q2, q3⟩
          go_simp <;> (first | done | (intro _; omega))
        try simp only [Act.put, List.setIfInBounds_toArray, List.set_cons_zero, List.set_cons_succ]
        refine tk 17 74 (.bool true) hHeld rfl (by kernel_rfl) (by kernel_rfl) (by kernel_rfl) (fun _ _ _ h => h) (Or.inl ⟨by rfl, ?_⟩) ?_
        · rintro w ⟨⟨q0, q1⟩, q2, q3⟩
          go_simp <;> (first | done | (intro _; omega))
        try simp only [Act.put, List.setIfInBounds_toArray, List.set_cons_zero, List.set_cons_succ]
        refine tk 18 75 (.bool true) hHeld rfl (by kernel_rfl) (by kernel_rfl) (by kernel_rfl) (fun _ _ _ h => h) (Or.inl ⟨by rfl, ?_⟩) ?_
        · rintro w ⟨⟨q0, q1⟩, q2, q3⟩
          go_simp <;> (first | done | (intro _; omega))
        try simp only [Act.put, List.setIfInBounds_toArray, List.set_cons_zero, List.set_cons_succ]
        refine tk 19 76 (.bool true) hHeld rfl (by kernel_rfl) (by kernel_rfl) (by kernel_rfl) (fun _ _ _ h => h) (Or.inl ⟨by rfl, ?_⟩) ?_
        · rintro w ⟨⟨q0, q1⟩, q2, q3⟩
          go_simp <;> (first | done | (intro _; omega))
        try simp only [Act.put, List.setIfInBounds_toArray, List.set_cons_zero, List.set_cons_succ]
        refine tk 20 77 (.slice av ls.length cv) hHeld rfl (by kernel_rfl) (by kernel_rfl) (by kernel_rfl) (fun _ _ _ h => h) (Or.inl ⟨by rfl, ?_⟩) ?_
        · rintro w ⟨⟨q0, q1⟩, q2, q3⟩
          go_simp <;> (first | done | (intro _; omega))
        try simp only [Act.put, List.setIfInBounds_toArray, List.set_cons_zero, List.set_cons_succ]
        refine tk 21 78 (.slice ua U.length uc) hHeld rfl (by kernel_rfl) (by kernel_rfl) (by kernel_rfl) (fun _ _ _ h => h) (Or.inl ⟨by rfl, ?_⟩) ?_
        · rintro w ⟨⟨q0, q1⟩, q2, q3⟩
          go_simp <;> (first | done | (intro _; omega))
        try simp only [Act.put, List.setIfInBounds_toArray, List.set_cons_zero, List.set_cons_succ]
        refine tk 24 81 (.pointer (some ⟨b2, 0, none⟩)) hHeld rfl (by kernel_rfl) (by kernel_rfl) (by kernel_rfl) (fun _ _ _ h => h) (Or.inl ⟨by rfl, ?_⟩) ?_
        · rintro w ⟨⟨q0, q1⟩, q2, q3⟩
          go_simp <;> (first | done | (intro _; omega))
        try simp only [Act.put, List.setIfInBounds_toArray, List.set_cons_zero, List.set_cons_succ]
        refine tk 25 82 (.int .i64 C) hHeld rfl (by kernel_rfl) (by kernel_rfl) (by kernel_rfl) (fun _ _ _ h => h) (Or.inl ⟨by rfl, ?_⟩) ?_
        · rintro w ⟨⟨q0, q1⟩, q2, q3⟩
          go_simp <;> (first | done | (intro _; omega))
        try simp only [Act.put, List.setIfInBounds_toArray, List.set_cons_zero, List.set_cons_succ]
        refine wpAnyH_ready (rs := [22]) (by kernel_rfl) (by simp) ?_
        refine AllReadyH.cons rfl (fun K hK => ?_) AllReadyH.nil
        go_simp
        refine (HSV.out _ (BB12.out)).mono ?_
        rintro r w13 ⟨x13, y13, rfl, hb13⟩
        have BB13 := hide (below_next (BB12.out) hb13)
        clear hb13
        go_wp2_with fail
        refine hK.out _ _ (KB.out _ BB13.out) (fun hHeld => ?_)
        clear hK K
        try simp only [Act.put, List.setIfInBounds_toArray, List.set_cons_zero, List.set_cons_succ]
        refine tk 23 80 (.int .i64 C) hHeld rfl (by kernel_rfl) (by kernel_rfl) (by kernel_rfl) (fun _ _ _ h => h) (Or.inl ⟨by rfl, ?_⟩) ?_
        · rintro w ⟨⟨q0, q1⟩, q2, q3⟩
          go_simp <;> (first | done | (intro _; omega))
        try simp only [Act.put, List.setIfInBounds_toArray, List.set_cons_zero, List.set_cons_succ]
        refine tk 26 83 (.bool true) hHeld rfl (by kernel_rfl) (by kernel_rfl) (by kernel_rfl) (fun _ _ _ h => h) (Or.inl ⟨by rfl, ?_⟩) ?_
        · rintro w ⟨⟨q0, q1⟩, q2, q3⟩
          go_simp <;> (first | done | (intro _; omega))
        try simp only [Act.put, List.setIfInBounds_toArray, List.set_cons_zero, List.set_cons_succ]
        refine tk 27 84 (.bool true) hHeld rfl (by kernel_rfl) (by kernel_rfl) (by kernel_rfl) (fun _ _ _ h => h) (Or.inl ⟨by rfl, ?_⟩) ?_
        · rintro w ⟨⟨q0, q1⟩, q2, q3⟩
          go_simp <;> (first | done | (intro _; omega))
        try simp only [Act.put, List.setIfInBounds_toArray, List.set_cons_zero, List.set_cons_succ]
        refine tk 28 85 (.bool true) hHeld rfl (by kernel_rfl) (by kernel_rfl) (by kernel_rfl) (fun _ _ _ h => h) (Or.inl ⟨by rfl, ?_⟩) ?_
        · rintro w ⟨⟨q0, q1⟩, q2, q3⟩
          go_simp <;> (first | done | (intro _; omega))
        try simp only [Act.put, List.setIfInBounds_toArray, List.set_cons_zero, List.set_cons_succ]
        refine tk 29 86 (.pointer (some ⟨b4, 0, none⟩)) hHeld rfl (by kernel_rfl) (by kernel_rfl) (by kernel_rfl) (fun _ _ _ h => h) (Or.inl ⟨by rfl, ?_⟩) ?_
        · rintro w ⟨⟨q0, q1⟩, q2, q3⟩
          go_simp <;> (first | done | (intro _; omega))
        try simp only [Act.put, List.setIfInBounds_toArray, List.set_cons_zero, List.set_cons_succ]
        refine tk 30 87 (.int .i64 qb) hHeld rfl (by kernel_rfl) (by kernel_rfl) (by kernel_rfl) (fun _ _ _ h => h) (Or.inl ⟨by rfl, ?_⟩) ?_
        · rintro w ⟨⟨q0, q1⟩, q2, q3⟩
          go_simp <;> (first | done | (intro _; omega))
        try simp only [Act.put, List.setIfInBounds_toArray, List.set_cons_zero, List.set_cons_succ]
        refine tk 31 88 (.slice av ls.length cv) hHeld rfl (by kernel_rfl) (by kernel_rfl) (by kernel_rfl) (fun _ _ _ h => h) (Or.inl ⟨by rfl, ?_⟩) ?_
        · rintro w ⟨⟨q0, q1⟩, q2, q3⟩
          go_simp <;> (first | done | (intro _; omega))
        try simp only [Act.put, List.setIfInBounds_toArray, List.set_cons_zero, List.set_cons_succ]
        refine tk 32 89 (.slice ua U.length uc) hHeld rfl (by kernel_rfl) (by kernel_rfl) (by kernel_rfl) (fun _ _ _ h => h) (Or.inl ⟨by rfl, ?_⟩) ?_
        · rintro w ⟨⟨q0, q1⟩, q2, q3⟩
          go_simp <;> (first | done | (intro _; omega))
        try simp only [Act.put, List.setIfInBounds_toArray, List.set_cons_zero, List.set_cons_succ]
        refine tk 33 90 (.string (str p)) hHeld rfl (by kernel_rfl) (by kernel_rfl) (by kernel_rfl) (fun _ _ _ h => h) (Or.inl ⟨by rfl, ?_⟩) ?_
        · rintro w ⟨⟨q0, q1⟩, q2, q3⟩
          go_simp <;> (first | done | (intro _; omega))
        try simp only [Act.put, List.setIfInBounds_toArray, List.set_cons_zero, List.set_cons_succ]
        refine wpAnyH_ready (rs := [34]) (by kernel_rfl) (by simp) ?_
        refine AllReadyH.cons rfl (fun K hK => ?_) AllReadyH.nil
        go_simp
        refine (HSK.out _ (BB13.out)).mono ?_
        rintro r w14 ⟨x14, y14, rfl, hb14⟩
        have BB14 := hide (below_next (BB13.out) hb14)
        clear hb14
        go_wp2_with fail
        refine hK.out _ _ (KB.out _ BB14.out) (fun hHeld => ?_)
        clear hK K
        try simp only [Act.put, List.setIfInBounds_toArray, List.set_cons_zero, List.set_cons_succ]
        refine tk 35 92 (.int .i64 qb) hHeld rfl (by kernel_rfl) (by kernel_rfl) (by kernel_rfl) (fun _ _ _ h => h) (Or.inl ⟨by rfl, ?_⟩) ?_
        · rintro w ⟨⟨q0, q1⟩, q2, q3⟩
          go_simp <;> (first | done | (intro _; omega))
        try simp only [Act.put, List.setIfInBounds_toArray, List.set_cons_zero, List.set_cons_succ]
        refine tk 36 93 (.bool true) hHeld rfl (by kernel_rfl) (by kernel_rfl) (by kernel_rfl) (fun _ _ _ h => h) (Or.inl ⟨by rfl, ?_⟩) ?_
        · rintro w ⟨⟨q0, q1⟩, q2, q3⟩
          go_simp <;> (first | done | (intro _; omega))
        try simp only [Act.put, List.setIfInBounds_toArray, List.set_cons_zero, List.set_cons_succ]
        refine tk 37 94 (.bool true) hHeld rfl (by kernel_rfl) (by kernel_rfl) (by kernel_rfl) (fun _ _ _ h => h) (Or.inl ⟨by rfl, ?_⟩) ?_
        · rintro w ⟨⟨q0, q1⟩, q2, q3⟩
          go_simp <;> (first | done | (intro _; omega))
        try simp only [Act.put, List.setIfInBounds_toArray, List.set_cons_zero, List.set_cons_succ]
        refine tk 38 2 (.bool true) hHeld rfl (by kernel_rfl) (by kernel_rfl) (by kernel_rfl) (fun _ _ _ h => h) (Or.inl ⟨by rfl, ?_⟩) ?_
        · rintro w ⟨⟨q0, q1⟩, q2, q3⟩
          go_simp <;> (first | done | (intro _; omega))
        try simp only [Act.put, List.setIfInBounds_toArray, List.set_cons_zero, List.set_cons_succ]
        refine wpAnyH_done (by kernel_rfl) ?_ _
        go_wp2_with fail
        go_ret
        exact ⟨rfl, below_next B5.out BB14.out⟩

set_option maxRecDepth 100000 in
theorem lifted (os : Os) (started : os.Started) (H : Type) (enc : TypeId × Value → H) :
    ReturnsInHanded {} Tryz.checked os 3 .any (Rows.fnMountsSpec.pre6 enc Tryz.prog Tryz.f3 Rows.fnMountsRow.domain false) (Rows.fnMountsSpec.post enc Tryz.prog Tryz.f3 false true false false) := by
  refine returnsInHanded_of_change (C := Tryz.checked) own started (by kernel_rfl) Tryz.func3
    (ChangeSpec.witness6 (enc := enc) (C := Tryz.checked) false ⟨#[], #[.slice none 0 0], []⟩ 8 (by kernel_rfl) (by kernel_rfl) (by kernel_rfl) (by kernel_rfl)) ?_
  intro W base args ds gs before hval0 hW hcnd _
  have hval : ∀ (j : Nat) t v, Tryz.f3.params[j]? = some t → args[j]? = some v → Value.okWide Tryz.prog W .any base t v := hval0
  have hW' := hW
  obtain ⟨p, q, hA0, hV, rfl, hfz, hnd⟩ := hW
  have hA : DataW.TrodAll enc Tryz.prog W 0 (fun _ => true) true Tryz.f3.params.toList args.toList ds p := hA0
  rw [Tryz.params3] at hA hval
  obtain ⟨v0, vs0, d0, ds0, p0, q0, hargs, rfl, rfl, h0, r0⟩ := trodAll_cons hA
  obtain ⟨rfl, rfl, rfl⟩ := trodAll_nil r0
  obtain rfl : args = #[v0] := by cases args; simp_all
  obtain ⟨rfl, rfl⟩ := trodVars_none hV
  obtain ⟨a0, len0, cap0, rfl⟩ := okWide_slice Tryz.underlying22 (hval 0 22 v0 rfl rfl)
  have k0 := h0
  have lt0 : ∀ x ∈ p0, x.block < W.heap.size := by obtain ⟨m, hm⟩ := k0; exact DataW.trod_lt m _ _ _ hm
  obtain ⟨zs, hlen, hread, hu, hmax⟩ : ∃ zs : List Int, zs.length = len0 ∧ Reads .u8 W a0 zs ∧ U8 zs ∧ zs.length ≤ maxLen := by
    obtain ⟨fuel, hf⟩ := h0
    rcases open_ints Tryz.underlying22 Tryz.underlying5 (by kernel_rfl) hf with ⟨hcs, _⟩ | ⟨x, l, c, zs, hcs, _, hl, hm, hz, _, hcell, hwz⟩
    · simp [Value.cells] at hcs
      obtain ⟨rfl, rfl, rfl⟩ := hcs
      exact ⟨[], rfl, fun h => absurd rfl h, fun z hz => by simp at hz, Nat.zero_le _⟩
    · simp [Value.cells] at hcs
      obtain ⟨rfl, rfl, rfl⟩ := hcs
      exact reads_of_row (by simpa using hz) hl hm hcell hwz
  subst hlen
  clear hA0 hval0
  refine (walk a0 cap0 zs W hread hu hmax).mono fun e W' ⟨he, bel⟩ => ?_
  subst he
  exact ⟨_, rfl, _, _, _, [], _, [], hW', trodAll_mk1 (shut_bool Tryz.underlying4 _), (trodAll_cons_mk (Below.trod laidOut (by kernel_rfl) (of_decide_eq_true (by kernel_rfl)) k0 bel lt0) trodAll_mk0), rfl, bel.frame _, fun h => by cases h⟩

theorem over : Rows.fnMountsRow.holds Tryz.pinned (OpenSpec.ofChange Rows.fnMountsSpec) :=
  OpenClaim.holds_of_wide 3 Tryz.f3 rfl rfl rfl rfl rfl rfl rfl ⟨rfl, rfl, rfl, rfl, rfl⟩ rfl rfl rfl rfl rfl (by kernel_rfl) Tryz.func3 (by kernel_rfl)
    (of_decide_eq_true (by kernel_rfl)) (by unfold Func.isWrapper; first | (rw [if_pos (by decide +kernel)]; kernel_rfl) | (rw [if_neg (by decide +kernel)]; exact ⟨rfl, rfl⟩))
    (fun os started H enc _ => lifted os started H enc)

end Go.Proofs.YtebgfaohhhgdpaaGreat.fnMounts
namespace Go.Proofs.YtebgfaohhhgdpaaGreat
theorem fnMounts_holds : Rows.FnMountsSaid := fnMounts.over
#print axioms fnMounts_holds
end Go.Proofs.YtebgfaohhhgdpaaGreat

