/-
  At every byte slice the law FnLazy returns true: what is read before all is there is what is read behind it, or it is told that it is away. No condition.
-/
import Derived.Test.YtejipahfodhmjaaGreatKLazy20
import Derived.ProofKit
import Derived.Deep.CutRange
import Derived.OpenShut
import Derived.ShutString
import Derived.ChangeOld
import Derived.Deep.DrawnRows
import Derived.Deep.RegionHeld3
namespace Go.Proofs.YtejipahfodhmjaaGreat.fnLazy
open Go.ChangeShapes Go.WideShapes Go.ChangeAt Go.RowKit Go.Maps
set_option linter.unusedVariables false
attribute [local go_sem ↓] Go.wp_at_zero Go.wp_at_succ

theorem own : ownKnob Tryz.prog.godebug = none := by kernel_rfl
theorem laidOut : laidOutB Tryz.prog = true := by kernel_rfl
theorem tk {P : Program} {ops : Array Oper} {Q : Exit → Act → World → Prop} {md : Region.Mode} {S : World → Prop} (i d : Nat) (v : Value) {op : Op} {ty : TypeId} {pos : String} {af : Array Edge} {gd : Option (Nat × Bool)} {fuel : Nat} {listed : Array Bool} {a : Act} {w : World} (hS : S w) (hi : ops[i]? = some { dst := some d, op := op, type := ty, pos := pos, after := af, guard := gd })
    (hs : Region.noSelect ops = true) (hf : Region.free md ops listed i = true) (hr : (Region.ready md ops listed).contains i = true) (hQ : ∀ c a w, Q (.panic c) (a.put (some d) v) w → Q (.panic c) a w) (hy : YieldsIf P ops S { dst := some d, op := op, type := ty, pos := pos, after := af, guard := gd } v a)
    (h : wpAnyH P md ops Q S fuel (listed.setIfInBounds i true) (a.put (some d) v) w) : wpAnyH P md ops Q S (fuel + 1) listed a w := wpAnyH_take hi hs hf hr hQ hy hS h

theorem lwBig_no (a : Option Addr) (cap : Nat) (n : Nat) (w : World) (h : n ≤ 1048576) :
    Calls Tryz.prog 7 #[.slice a n cap] w fun e w' => e = .returned (.bool false) ∧ w' = w := by
  have hb : ¬ (1048576 : Int) < (n : Int) := by omega
  go_enter Tryz.func7, Tryz.ntmps7
  go_wp2
  go_ret
  exact ⟨ret_bool (by simp <;> omega), rfl⟩
theorem lwBig_yes (a : Option Addr) (cap : Nat) (n : Nat) (w : World) (h : 1048576 < n) (h2 : n ≤ maxLen) :
    Calls Tryz.prog 7 #[.slice a n cap] w fun e w' => e = .returned (.bool true) ∧ w' = w := by
  have hb : (1048576 : Int) < (n : Int) := by omega
  unfold maxLen at h2
  go_enter Tryz.func7, Tryz.ntmps7
  go_wp2
  go_ret
  exact ⟨ret_bool (by simp <;> omega), rfl⟩
set_option maxRecDepth 100000 in
set_option maxHeartbeats 25600000 in
theorem walk (a0 : Option Addr) (cap0 : Nat) (zs : List Int) (w : World) (h : Reads .u8 w a0 zs) (hu : U8 zs) (hmax : zs.length ≤ maxLen) :
    Calls Tryz.prog 3 #[.slice a0 zs.length cap0] w fun e w' => e = .returned (.bool true) ∧ Below w.heap.size w w' := by
  have HR := hide h
  have HU := hide hu
  clear h hu
  by_cases hbig : 1048576 < zs.length
  · go_enter Tryz.func3, Tryz.ntmps3
    go_wp2_with fail
    refine (lwBig_yes _ _ _ _ hbig hmax).mono ?_
    rintro e w ⟨rfl, rfl⟩
    go_wp2_with fail
    go_ret
    exact ⟨rfl, Below.refl _ _⟩
  · go_enter Tryz.func3, Tryz.ntmps3
    go_wp2_with fail
    refine (lwBig_no _ _ _ _ (by omega)).mono ?_
    rintro e w ⟨rfl, rfl⟩
    go_wp2_with fail
    refine (drawReadOver_any a0 cap0 zs _ HR.out HU.out (by omega)).mono ?_
    rintro e w1 ⟨va, vc, ls, ca, cc, n, D, P, q, rfl, hgl, hrl, hrc, hn41, hsm, hql, hb1⟩
    have HRL := hide hrl
    have HRC := hide hrc
    have B1 := hide hb1
    have HSL := hide hgl.2.1
    have HGd := hide (fun es he => (hgl.2.2 es he).2)
    have HP := hide (show ∀ i, i < n → U8 (P i) ∧ (P i).length ≤ 1048576 from fun i hi => ⟨(hsm i hi).1, by have := (hsm i hi).2; omega⟩)
    have hl5 := hgl.1
    have hl : ls.length ≤ 1048576 := by omega
    have hn : n ≤ 1048576 := by omega
    clear hgl hrl hrc hb1 hsm HR HU hbig hmax
    by_cases hz : filC ls D P n q = 0
    · obtain ⟨e, hE⟩ := fil_zero hz
      have HE := hide hE
      have hc3 := entFault_chunks hE.ent
      have HRt := hide (fault_zero hE.flt)
      have HIR := hide (fun (u : World) (hb : Below w1.heap.size w1 u) => implReadOver_ok va vc ls.length ls ca cc n D P q u (HRL.out.below hb) rfl hl HSL.out (HRC.out.below hb) hn HP.out hql e HE.out)
      have HSR := hide (fun (u : World) (hb : Below w1.heap.size w1 u) => specReadOver_ok va vc ls.length ls ca cc n D P q u (HRL.out.below hb) rfl hl HSL.out HGd.out (HRC.out.below hb) hn HP.out hql e HE.out)
      have HIA := hide (fun (u : World) (hb : Below w1.heap.size w1 u) => implAwayOver_ok va vc ls.length ls ca cc n D P q u (HRL.out.below hb) rfl hl HSL.out (HRC.out.below hb) hn HP.out hql e HE.out)
      have HSA := hide (fun (u : World) (hb : Below w1.heap.size w1 u) => specAwayOver_ok va vc ls.length ls ca cc n D P q u (HRL.out.below hb) rfl hl HSL.out HGd.out (HRC.out.below hb) hn HP.out hql e HE.out)
      have HLO := hide (fun (u : World) (hb : Below w1.heap.size w1 u) => implLookOver_any va vc ls.length ls q u (HRL.out.below hb) rfl hl HSL.out hql)
      rw [hE.plc, hE.look] at HLO
      have HRP := hide (fun (u : World) (hb : Below w1.heap.size w1 u) (k : Nat) (hk : k < e.chunks.length) => implReadPart_ok va vc ls.length ls ca cc n D P q u (HRL.out.below hb) rfl hl HSL.out (HRC.out.below hb) hn HP.out hql e HE.out k hk)
      have h8 := awB_file (D := D) (P := P) (n := n) (e := e)
      have HCA := hide (cat_all (D := D) (P := P) (n := n) (e := e))
      have hrl2 := rd_len (D := D) (P := P) (n := n) (e := e) HRt.out hc3
      generalize rdQ D P n e = Q at *
      obtain ⟨qc, bs⟩ := Q
      simp only at HIR HSR HCA h8 hrl2
      obtain ⟨Z, hZ⟩ : ∃ Z, Z = missE D n e := ⟨_, rfl⟩
      have hAB : awB D n e = decide (0 < Z.length) := by
        rw [awB, ← hZ]
        cases Z <;> rfl
      rw [hAB] at h8
      rw [← hZ] at HIA HSA
      clear hZ hAB hE hz HRL HRC HSL HGd HP
      obtain ⟨L, hL⟩ : ∃ L, L = Z.length := ⟨_, rfl⟩
      have HL := hide hL
      rw [← hL] at h8
      clear hL
      have hqq : (qc != qc) = false := by simp
      go_wp2_with fail
      refine (HIR.out _ (Below.refl _ _)).mono ?_
      rintro r w2 ⟨ra, rcc, rfl, hg2, hb2⟩
      have A2 := hide (below_alloc w2 (.cells #[.int .i64 qc, .slice ra bs.length rcc] 29))
      have X2 := hide (Two.new w2 (.int .i64 qc) (.slice ra bs.length rcc) 29)
      have B2 := hide (below_next hb2 A2.out)
      have O2 := hide (ownsRow_below hg2.1 A2.out)
      clear hg2 hb2 A2 HIR
      go_wp2_with fail
      generalize w2.alloc (.cells #[.int .i64 qc, .slice ra bs.length rcc] 29) = W2 at *
      obtain ⟨rb, hrb⟩ : ∃ rb, rb = w2.heap.size := ⟨_, rfl⟩
      rw [← hrb] at X2 ⊢
      clear hrb
      refine (HSR.out _ B2.out).mono ?_
      rintro r w3 ⟨xa, xcc, rfl, hg3, hb3⟩
      have A3 := hide (below_alloc w3 (.cells #[.int .i64 qc, .slice xa bs.length xcc] 29))
      have Y3 := hide (Two.new w3 (.int .i64 qc) (.slice xa bs.length xcc) 29)
      have BB3 := hide (below_next hb3 A3.out)
      have B3 := hide (below_next B2.out BB3.out)
      have P3 := hide (ownsRow_below hg3.1 A3.out)
      have O3 := hide (ownsRow_below O2.out BB3.out)
      have X3 := hide (X2.out.below BB3.out)
      clear hg3 hb3 A3 HSR O2 X2 BB3 B2
      go_wp2_with fail
      generalize w3.alloc (.cells #[.int .i64 qc, .slice xa bs.length xcc] 29) = W3 at *
      obtain ⟨xb, hxb⟩ : ∃ xb, xb = w3.heap.size := ⟨_, rfl⟩
      rw [← hxb] at Y3 ⊢
      clear hxb
      refine (HIA.out _ B3.out).mono ?_
      rintro r w4 ⟨al, ac, rfl, hg4, hb4⟩
      rw [← HL.out]
      have A4 := hide (below_alloc w4 (.cells #[.int .i64 0, .slice al L ac] 33))
      have Z4 := hide (Two.new w4 (.int .i64 0) (.slice al L ac) 33)
      have BB4 := hide (below_next hb4 A4.out)
      have B4 := hide (below_next B3.out BB4.out)
      have P4 := hide (ownsRow_below P3.out BB4.out)
      have O4 := hide (ownsRow_below O3.out BB4.out)
      have X4 := hide (X3.out.below BB4.out)
      have Y4 := hide (Y3.out.below BB4.out)
      clear hg4 hb4 A4 HIA O3 P3 X3 Y3 BB4 B3
      go_upto_region 7 with fail
      generalize w4.alloc (.cells #[.int .i64 0, .slice al L ac] 33) = W4 at *
      obtain ⟨ab, hab⟩ : ∃ ab, ab = w4.heap.size := ⟨_, rfl⟩
      rw [← hab] at Z4 ⊢
      clear hab
      have KB : Hid (∀ u : World, Below W4.heap.size W4 u → (u.cell? ⟨rb, 0, none⟩ = some (.int .i64 qc) ∧ u.cell? ⟨rb, 1, none⟩ = some (.slice ra bs.length rcc)) ∧ (u.cell? ⟨xb, 0, none⟩ = some (.int .i64 qc) ∧ u.cell? ⟨xb, 1, none⟩ = some (.slice xa bs.length xcc)) ∧ u.cell? ⟨ab, 0, none⟩ = some (.int .i64 0) ∧ u.cell? ⟨ab, 1, none⟩ = some (.slice al L ac)) := hide (fun u hb => ⟨X4.out.below hb, Y4.out.below hb, Z4.out.below hb⟩)
      have BD := hide ((Below.refl W4.heap.size W4).drew)
      refine wp_region_held_drew (S := fun u => (u.cell? ⟨rb, 0, none⟩ = some (.int .i64 qc) ∧ u.cell? ⟨rb, 1, none⟩ = some (.slice ra bs.length rcc)) ∧ (u.cell? ⟨xb, 0, none⟩ = some (.int .i64 qc) ∧ u.cell? ⟨xb, 1, none⟩ = some (.slice xa bs.length xcc)) ∧ u.cell? ⟨ab, 0, none⟩ = some (.int .i64 0) ∧ u.cell? ⟨ab, 1, none⟩ = some (.slice al L ac)) (by kernel_rfl) (KB.out _ BD.out) (fun hHeld => ?_)
      change wpAnyH _ _ _ _ _ _ (Array.replicate _ false) _ _
      refine tk 0 33 (.pointer (some ⟨rb, 0, none⟩)) hHeld rfl (by kernel_rfl) (by kernel_rfl) (by kernel_rfl) (fun _ _ _ h => h) (Or.inl ⟨by rfl, ?_⟩) ?_
      · rintro w ⟨⟨r0, r1⟩, ⟨x0, x1⟩, z0, z1⟩
        go_simp <;> (first | done | omega | (intro _; omega))
      try simp only [Act.put, List.setIfInBounds_toArray, List.set_cons_zero, List.set_cons_succ]
      refine tk 1 34 (.int .i64 qc) hHeld rfl (by kernel_rfl) (by kernel_rfl) (by kernel_rfl) (fun _ _ _ h => h) (Or.inl ⟨by rfl, ?_⟩) ?_
      · rintro w ⟨⟨r0, r1⟩, ⟨x0, x1⟩, z0, z1⟩
        go_simp <;> (first | done | omega | (intro _; omega))
      try simp only [Act.put, List.setIfInBounds_toArray, List.set_cons_zero, List.set_cons_succ]
      refine tk 2 35 (.pointer (some ⟨xb, 0, none⟩)) hHeld rfl (by kernel_rfl) (by kernel_rfl) (by kernel_rfl) (fun _ _ _ h => h) (Or.inl ⟨by rfl, ?_⟩) ?_
      · rintro w ⟨⟨r0, r1⟩, ⟨x0, x1⟩, z0, z1⟩
        go_simp <;> (first | done | omega | (intro _; omega))
      try simp only [Act.put, List.setIfInBounds_toArray, List.set_cons_zero, List.set_cons_succ]
      refine tk 3 36 (.int .i64 qc) hHeld rfl (by kernel_rfl) (by kernel_rfl) (by kernel_rfl) (fun _ _ _ h => h) (Or.inl ⟨by rfl, ?_⟩) ?_
      · rintro w ⟨⟨r0, r1⟩, ⟨x0, x1⟩, z0, z1⟩
        go_simp <;> (first | done | omega | (intro _; omega))
      try simp only [Act.put, List.setIfInBounds_toArray, List.set_cons_zero, List.set_cons_succ]
      refine tk 4 37 (.bool false) hHeld rfl (by kernel_rfl) (by kernel_rfl) (by kernel_rfl) (fun _ _ _ h => h) (Or.inl ⟨by rfl, ?_⟩) ?_
      · rintro w ⟨⟨r0, r1⟩, ⟨x0, x1⟩, z0, z1⟩
        go_simp <;> (first | done | omega | (intro _; omega))
      try simp only [Act.put, List.setIfInBounds_toArray, List.set_cons_zero, List.set_cons_succ]
      refine tk 5 38 (.bool false) hHeld rfl (by kernel_rfl) (by kernel_rfl) (by kernel_rfl) (fun _ _ _ h => h) (Or.inl ⟨by rfl, ?_⟩) ?_
      · rintro w ⟨⟨r0, r1⟩, ⟨x0, x1⟩, z0, z1⟩
        go_simp <;> (first | done | omega | (intro _; omega))
      try simp only [Act.put, List.setIfInBounds_toArray, List.set_cons_zero, List.set_cons_succ]
      refine tk 6 39 (.pointer (some ⟨ab, 0, none⟩)) hHeld rfl (by kernel_rfl) (by kernel_rfl) (by kernel_rfl) (fun _ _ _ h => h) (Or.inl ⟨by rfl, ?_⟩) ?_
      · rintro w ⟨⟨r0, r1⟩, ⟨x0, x1⟩, z0, z1⟩
        go_simp <;> (first | done | omega | (intro _; omega))
      try simp only [Act.put, List.setIfInBounds_toArray, List.set_cons_zero, List.set_cons_succ]
      refine tk 7 40 (.int .i64 0) hHeld rfl (by kernel_rfl) (by kernel_rfl) (by kernel_rfl) (fun _ _ _ h => h) (Or.inl ⟨by rfl, ?_⟩) ?_
      · rintro w ⟨⟨r0, r1⟩, ⟨x0, x1⟩, z0, z1⟩
        go_simp <;> (first | done | omega | (intro _; omega))
      try simp only [Act.put, List.setIfInBounds_toArray, List.set_cons_zero, List.set_cons_succ]
      refine tk 8 41 (.slice va ls.length vc) hHeld rfl (by kernel_rfl) (by kernel_rfl) (by kernel_rfl) (fun _ _ _ h => h) (Or.inl ⟨by rfl, ?_⟩) ?_
      · rintro w ⟨⟨r0, r1⟩, ⟨x0, x1⟩, z0, z1⟩
        go_simp <;> (first | done | omega | (intro _; omega))
      try simp only [Act.put, List.setIfInBounds_toArray, List.set_cons_zero, List.set_cons_succ]
      refine tk 9 42 (.slice ca n cc) hHeld rfl (by kernel_rfl) (by kernel_rfl) (by kernel_rfl) (fun _ _ _ h => h) (Or.inl ⟨by rfl, ?_⟩) ?_
      · rintro w ⟨⟨r0, r1⟩, ⟨x0, x1⟩, z0, z1⟩
        go_simp <;> (first | done | omega | (intro _; omega))
      try simp only [Act.put, List.setIfInBounds_toArray, List.set_cons_zero, List.set_cons_succ]
      refine tk 10 43 (.string (str q)) hHeld rfl (by kernel_rfl) (by kernel_rfl) (by kernel_rfl) (fun _ _ _ h => h) (Or.inl ⟨by rfl, ?_⟩) ?_
      · rintro w ⟨⟨r0, r1⟩, ⟨x0, x1⟩, z0, z1⟩
        go_simp <;> (first | done | omega | (intro _; omega))
      try simp only [Act.put, List.setIfInBounds_toArray, List.set_cons_zero, List.set_cons_succ]
      refine wpAnyH_ready (rs := [11]) (by kernel_rfl) (by simp) ?_
      refine AllReadyH.cons rfl (fun K hK => ?_) AllReadyH.nil
      go_simp
      refine (HSA.out _ (below_next B4.out BD.out)).mono ?_
      rintro r w8 ⟨sa, sc, rfl, hg8, hb8⟩
      rw [← HL.out]
      have BB8 := hide (BD.out.trans hb8)
      clear hg8 hb8
      go_wp2_with fail
      refine hK.out _ _ (KB.out _ BB8.out) (fun hHeld => ?_)
      clear hK K
      try simp only [Act.put, List.setIfInBounds_toArray, List.set_cons_zero, List.set_cons_succ]
      refine tk 12 45 (.int .i64 0) hHeld rfl (by kernel_rfl) (by kernel_rfl) (by kernel_rfl) (fun _ _ _ h => h) (Or.inl ⟨by rfl, ?_⟩) ?_
      · rintro w ⟨⟨r0, r1⟩, ⟨x0, x1⟩, z0, z1⟩
        kernel_rfl
      try simp only [Act.put, List.setIfInBounds_toArray, List.set_cons_zero, List.set_cons_succ]
      refine tk 13 46 (.bool false) hHeld rfl (by kernel_rfl) (by kernel_rfl) (by kernel_rfl) (fun _ _ _ h => h) (Or.inl ⟨by rfl, ?_⟩) ?_
      · rintro w ⟨⟨r0, r1⟩, ⟨x0, x1⟩, z0, z1⟩
        go_simp <;> (first | done | omega | (intro _; omega))
      try simp only [Act.put, List.setIfInBounds_toArray, List.set_cons_zero, List.set_cons_succ]
      refine tk 14 47 (.bool false) hHeld rfl (by kernel_rfl) (by kernel_rfl) (by kernel_rfl) (fun _ _ _ h => h) (Or.inl ⟨by rfl, ?_⟩) ?_
      · rintro w ⟨⟨r0, r1⟩, ⟨x0, x1⟩, z0, z1⟩
        go_simp <;> (first | done | omega | (intro _; omega))
      try simp only [Act.put, List.setIfInBounds_toArray, List.set_cons_zero, List.set_cons_succ]
      refine wpAnyH_done (by kernel_rfl) ?_ _
      have B8 := hide (below_next B4.out BB8.out)
      have O8 := hide (ownsRow_below O4.out BB8.out)
      have P8 := hide (ownsRow_below P4.out BB8.out)
      have cvr := convO O8.out
      have cvx := convO P8.out
      obtain ⟨⟨r0, r1⟩, ⟨x0, x1⟩, z0, z1⟩ := KB.out w8 BB8.out
      have KBW : Hid (∀ u : World, Below w8.heap.size w8 u → (u.cell? ⟨rb, 0, none⟩ = some (.int .i64 qc) ∧ u.cell? ⟨rb, 1, none⟩ = some (.slice ra bs.length rcc)) ∧ (u.cell? ⟨xb, 0, none⟩ = some (.int .i64 qc) ∧ u.cell? ⟨xb, 1, none⟩ = some (.slice xa bs.length xcc)) ∧ u.cell? ⟨ab, 0, none⟩ = some (.int .i64 0) ∧ u.cell? ⟨ab, 1, none⟩ = some (.slice al L ac)) := hide (fun u hb => KB.out u (below_next BB8.out hb))
      by_cases hL0 : 0 < L
      · have hg0 : (0 : Int) < (L : Int) := by omega
        have h8' : (qc == 8) = true := by rw [h8]; simpa using hL0
        clear h8 hL0
        have hxx : ((strOfNums bs).toList != (strOfNums bs).toList) = false := by simp
        go_wp2_with fail
        refine (HLO.out _ B8.out).mono ?_
        rintro r w9 ⟨la, lc, rfl, hG9, hb9⟩
        obtain ⟨lb, ex, ec, hla, -, -, -, -, -, e3, -, -, -, -⟩ := hG9.open (j := 0) (e := e) rfl
        subst hla
        have A9 := hide (below_alloc w9 (.cells #[.int .i64 0, .slice (some ⟨lb, 0, none⟩) 1 lc] 37))
        have V9 := hide (Two.new w9 (.int .i64 0) (.slice (some ⟨lb, 0, none⟩) 1 lc) 37)
        have hlb : lb < w9.heap.size := World.block_lt_of_cell? w9 ⟨lb, 0 * 4 + 3, none⟩ e3
        have E9 := hide ((A9.out.cell (p := ⟨lb, 0 * 4 + 3, none⟩) hlb).trans e3)
        have BB9 := hide (below_next hb9 A9.out)
        have B9 := hide (below_next B8.out BB9.out)
        have O9 := hide (ownsRow_below O8.out BB9.out)
        clear r0 r1 x0 x1 z0 z1 cvr cvx hG9 hb9 A9 e3 P8
        simp only [List.length_cons, List.length_nil, Nat.zero_add]
        obtain ⟨v0, v1⟩ := V9.out
        go_wp2_with fail
        clear v0 v1
        generalize w9.alloc (.cells #[.int .i64 0, .slice (some ⟨lb, 0, none⟩) 1 lc] 37) = W9 at *
        obtain ⟨vb, hvb⟩ : ∃ vb, vb = w9.heap.size := ⟨_, rfl⟩
        rw [← hvb] at V9 ⊢
        clear hvb
        have hlW : lb < W9.heap.size := World.block_lt_of_cell? W9 ⟨lb, 0 * 4 + 3, none⟩ E9.out
        simp only [Nat.zero_mul, Nat.zero_add] at E9
        go_loopw [9, 11, 12] (fun v9 v11 _ wr => ∃ k : Nat, k ≤ e.chunks.length ∧ v11 = .int .i64 k ∧ v9 = .string (strOfNums (catP D P n e.chunks k)) ∧ Hid (Below W9.heap.size W9 wr)) (fun _ v11 _ _ => e.chunks.length - (intOf v11).toNat)
        case atStart => exact ⟨0, Nat.zero_le _, rfl, rfl, hide (Below.refl _ _)⟩
        case round =>
          obtain ⟨k, hk, rfl, rfl, BW⟩ := hrel
          obtain ⟨v0, v1⟩ := V9.out.below BW.out
          have e3 := (BW.out.cell (p := ⟨lb, 3, none⟩) hlW).trans E9.out
          by_cases hlt : k < e.chunks.length
          · have hlt' : (k : Int) < (e.chunks.length : Int) := by omega
            have HCS := hide (catP_succ (D := D) (P := P) (n := n) hlt)
            have hcl := catP_len HRt.out (zs := e.chunks) k hk
            have hrl := rp_len HRt.out (e.chunks.getD k 0)
            have hrcd := rp_code (D := D) (P := P) (n := n) (e.chunks.getD k 0)
            have HRD := hide (HRP.out wr (below_next B9.out BW.out) k hlt)
            generalize rpQ D P n (e.chunks.getD k 0) = R at *
            obtain ⟨pq, pbs⟩ := R
            simp only at hrl hrcd HRD HCS
            generalize catP D P n e.chunks k = cs at *
            have hadd := fun (u : World) => addS (strOfNums cs) (strOfNums pbs) (by rw [strOfNums_size]; omega) (by rw [strOfNums_size]; omega) u
            rw [strJ] at hadd
            go_wp2_with fail
            refine HRD.out.mono ?_
            rintro r w11 ⟨pa, pc, rfl, hg11, hb11⟩
            have A11 := hide (below_alloc w11 (.cells #[.int .i64 pq, .slice pa pbs.length pc] 29))
            obtain ⟨p0, p1⟩ := Two.new w11 (.int .i64 pq) (.slice pa pbs.length pc) 29
            have cvp := convO (ownsRow_below hg11.1 A11.out)
            have B11 := hide (below_next BW.out (below_next hb11 A11.out))
            clear hg11 hb11 A11 v0 v1 e3
            rcases hrcd with hp | hp
            · subst hp
              go_wp2_with fail
              go_roundw
              case rel => exact ⟨k + 1, by omega, by go_num, by rw [HCS.out], B11⟩
              case measure => simp [intOf]; omega
            · subst hp
              go_wp2_with fail
              go_roundw
              case rel => exact ⟨k + 1, by omega, by go_num, by rw [HCS.out], B11⟩
              case measure => simp [intOf]; omega
          · have hlt' : ¬ (k : Int) < (e.chunks.length : Int) := by omega
            have hke : k = e.chunks.length := by omega
            have HKE := hide hke
            have O10 := hide (ownsRow_below O9.out BW.out)
            have cvr := convO O10.out
            have B10 := hide (below_next B9.out BW.out)
            obtain ⟨⟨r0, r1⟩, -, -⟩ := KBW.out wr (below_next BB9.out BW.out)
            clear hke
            by_cases hq0 : qc = 0
            · have HCE := hide (HCA.out hq0)
              rw [HKE.out, HCE.out]
              subst hq0
              have hee : ((strOfNums bs).toList == (strOfNums bs).toList) = true := by simp
              go_wp2_with fail
              go_ret
              exact ⟨rfl, below_next B1.out B10.out⟩
            · have hqn : (qc != 0) = true := by simpa using hq0
              generalize catP D P n e.chunks k = cs at *
              clear hq0
              go_wp2_with fail
              go_ret
              exact ⟨rfl, below_next B1.out B10.out⟩
      · have hg0 : ¬ (0 : Int) < (L : Int) := by omega
        have h8' : (qc == 8) = false := by rw [h8]; simpa using hL0
        clear h8 hL0
        have hxx : ((strOfNums bs).toList != (strOfNums bs).toList) = false := by simp
        go_wp2_with fail
        refine (HLO.out _ B8.out).mono ?_
        rintro r w9 ⟨la, lc, rfl, hG9, hb9⟩
        obtain ⟨lb, ex, ec, hla, -, -, -, -, -, e3, -, -, -, -⟩ := hG9.open (j := 0) (e := e) rfl
        subst hla
        have A9 := hide (below_alloc w9 (.cells #[.int .i64 0, .slice (some ⟨lb, 0, none⟩) 1 lc] 37))
        have V9 := hide (Two.new w9 (.int .i64 0) (.slice (some ⟨lb, 0, none⟩) 1 lc) 37)
        have hlb : lb < w9.heap.size := World.block_lt_of_cell? w9 ⟨lb, 0 * 4 + 3, none⟩ e3
        have E9 := hide ((A9.out.cell (p := ⟨lb, 0 * 4 + 3, none⟩) hlb).trans e3)
        have BB9 := hide (below_next hb9 A9.out)
        have B9 := hide (below_next B8.out BB9.out)
        have O9 := hide (ownsRow_below O8.out BB9.out)
        clear r0 r1 x0 x1 z0 z1 cvr cvx hG9 hb9 A9 e3 P8
        simp only [List.length_cons, List.length_nil, Nat.zero_add]
        obtain ⟨v0, v1⟩ := V9.out
        go_wp2_with fail
        clear v0 v1
        generalize w9.alloc (.cells #[.int .i64 0, .slice (some ⟨lb, 0, none⟩) 1 lc] 37) = W9 at *
        obtain ⟨vb, hvb⟩ : ∃ vb, vb = w9.heap.size := ⟨_, rfl⟩
        rw [← hvb] at V9 ⊢
        clear hvb
        have hlW : lb < W9.heap.size := World.block_lt_of_cell? W9 ⟨lb, 0 * 4 + 3, none⟩ E9.out
        simp only [Nat.zero_mul, Nat.zero_add] at E9
        go_loopw [9, 11, 12] (fun v9 v11 _ wr => ∃ k : Nat, k ≤ e.chunks.length ∧ v11 = .int .i64 k ∧ v9 = .string (strOfNums (catP D P n e.chunks k)) ∧ Hid (Below W9.heap.size W9 wr)) (fun _ v11 _ _ => e.chunks.length - (intOf v11).toNat)
        case atStart => exact ⟨0, Nat.zero_le _, rfl, rfl, hide (Below.refl _ _)⟩
        case round =>
          obtain ⟨k, hk, rfl, rfl, BW⟩ := hrel
          obtain ⟨v0, v1⟩ := V9.out.below BW.out
          have e3 := (BW.out.cell (p := ⟨lb, 3, none⟩) hlW).trans E9.out
          by_cases hlt : k < e.chunks.length
          · have hlt' : (k : Int) < (e.chunks.length : Int) := by omega
            have HCS := hide (catP_succ (D := D) (P := P) (n := n) hlt)
            have hcl := catP_len HRt.out (zs := e.chunks) k hk
            have hrl := rp_len HRt.out (e.chunks.getD k 0)
            have hrcd := rp_code (D := D) (P := P) (n := n) (e.chunks.getD k 0)
            have HRD := hide (HRP.out wr (below_next B9.out BW.out) k hlt)
            generalize rpQ D P n (e.chunks.getD k 0) = R at *
            obtain ⟨pq, pbs⟩ := R
            simp only at hrl hrcd HRD HCS
            generalize catP D P n e.chunks k = cs at *
            have hadd := fun (u : World) => addS (strOfNums cs) (strOfNums pbs) (by rw [strOfNums_size]; omega) (by rw [strOfNums_size]; omega) u
            rw [strJ] at hadd
            go_wp2_with fail
            refine HRD.out.mono ?_
            rintro r w11 ⟨pa, pc, rfl, hg11, hb11⟩
            have A11 := hide (below_alloc w11 (.cells #[.int .i64 pq, .slice pa pbs.length pc] 29))
            obtain ⟨p0, p1⟩ := Two.new w11 (.int .i64 pq) (.slice pa pbs.length pc) 29
            have cvp := convO (ownsRow_below hg11.1 A11.out)
            have B11 := hide (below_next BW.out (below_next hb11 A11.out))
            clear hg11 hb11 A11 v0 v1 e3
            rcases hrcd with hp | hp
            · subst hp
              go_wp2_with fail
              go_roundw
              case rel => exact ⟨k + 1, by omega, by go_num, by rw [HCS.out], B11⟩
              case measure => simp [intOf]; omega
            · subst hp
              go_wp2_with fail
              go_roundw
              case rel => exact ⟨k + 1, by omega, by go_num, by rw [HCS.out], B11⟩
              case measure => simp [intOf]; omega
          · have hlt' : ¬ (k : Int) < (e.chunks.length : Int) := by omega
            have hke : k = e.chunks.length := by omega
            have HKE := hide hke
            have O10 := hide (ownsRow_below O9.out BW.out)
            have cvr := convO O10.out
            have B10 := hide (below_next B9.out BW.out)
            obtain ⟨⟨r0, r1⟩, -, -⟩ := KBW.out wr (below_next BB9.out BW.out)
            clear hke
            by_cases hq0 : qc = 0
            · have HCE := hide (HCA.out hq0)
              rw [HKE.out, HCE.out]
              subst hq0
              have hee : ((strOfNums bs).toList == (strOfNums bs).toList) = true := by simp
              go_wp2_with fail
              go_ret
              exact ⟨rfl, below_next B1.out B10.out⟩
            · have hqn : (qc != 0) = true := by simpa using hq0
              generalize catP D P n e.chunks k = cs at *
              clear hq0
              go_wp2_with fail
              go_ret
              exact ⟨rfl, below_next B1.out B10.out⟩
    · have HIR := hide (fun (u : World) (hb : Below w1.heap.size w1 u) => implReadOver_bad va vc ls.length ls ca cc n D P q u (HRL.out.below hb) rfl hl HSL.out (HRC.out.below hb) hn HP.out hql _ rfl hz)
      have HSR := hide (fun (u : World) (hb : Below w1.heap.size w1 u) => specReadOver_bad va vc ls.length ls ca cc n D P q u (HRL.out.below hb) rfl hl HSL.out HGd.out (HRC.out.below hb) hn HP.out hql _ rfl hz)
      have HIA := hide (fun (u : World) (hb : Below w1.heap.size w1 u) => implAwayOver_bad va vc ls.length ls ca cc n D P q u (HRL.out.below hb) rfl hl HSL.out (HRC.out.below hb) hn HP.out hql _ rfl hz)
      have HSA := hide (fun (u : World) (hb : Below w1.heap.size w1 u) => specAwayOver_bad va vc ls.length ls ca cc n D P q u (HRL.out.below hb) rfl hl HSL.out HGd.out (HRC.out.below hb) hn HP.out hql _ rfl hz)
      generalize filC ls D P n q = qc at *
      have hqq : (qc != qc) = false := by simp
      have hqe : (qc == qc) = true := by simp
      have hqn : (qc != 0) = true := by simpa using hz
      clear hz HRL HRC HSL HGd HP
      go_wp2_with fail
      refine (HIR.out _ (Below.refl _ _)).mono ?_
      rintro r w2 ⟨ra, rcc, rfl, hg2, hb2⟩
      have A2 := hide (below_alloc w2 (.cells #[.int .i64 qc, .slice ra 0 rcc] 29))
      have X2 := hide (Two.new w2 (.int .i64 qc) (.slice ra 0 rcc) 29)
      have B2 := hide (below_next hb2 A2.out)
      clear hg2 hb2 A2 HIR
      go_wp2_with fail
      generalize w2.alloc (.cells #[.int .i64 qc, .slice ra 0 rcc] 29) = W2 at *
      obtain ⟨rb, hrb⟩ : ∃ rb, rb = w2.heap.size := ⟨_, rfl⟩
      rw [← hrb] at X2 ⊢
      clear hrb
      refine (HSR.out _ B2.out).mono ?_
      rintro r w3 ⟨xa, xcc, rfl, hg3, hb3⟩
      have A3 := hide (below_alloc w3 (.cells #[.int .i64 qc, .slice xa 0 xcc] 29))
      have Y3 := hide (Two.new w3 (.int .i64 qc) (.slice xa 0 xcc) 29)
      have BB3 := hide (below_next hb3 A3.out)
      have B3 := hide (below_next B2.out BB3.out)
      have X3 := hide (X2.out.below BB3.out)
      clear hg3 hb3 A3 HSR X2 BB3 B2
      go_wp2_with fail
      generalize w3.alloc (.cells #[.int .i64 qc, .slice xa 0 xcc] 29) = W3 at *
      obtain ⟨xb, hxb⟩ : ∃ xb, xb = w3.heap.size := ⟨_, rfl⟩
      rw [← hxb] at Y3 ⊢
      clear hxb
      refine (HIA.out _ B3.out).mono ?_
      rintro r w4 ⟨al, ac, rfl, hg4, hb4⟩
      have A4 := hide (below_alloc w4 (.cells #[.int .i64 qc, .slice al 0 ac] 33))
      have Z4 := hide (Two.new w4 (.int .i64 qc) (.slice al 0 ac) 33)
      have BB4 := hide (below_next hb4 A4.out)
      have B4 := hide (below_next B3.out BB4.out)
      have X4 := hide (X3.out.below BB4.out)
      have Y4 := hide (Y3.out.below BB4.out)
      clear hg4 hb4 A4 HIA X3 Y3 BB4 B3
      go_upto_region 7 with fail
      generalize w4.alloc (.cells #[.int .i64 qc, .slice al 0 ac] 33) = W4 at *
      obtain ⟨ab, hab⟩ : ∃ ab, ab = w4.heap.size := ⟨_, rfl⟩
      rw [← hab] at Z4 ⊢
      clear hab
      have KB : Hid (∀ u : World, Below W4.heap.size W4 u → (u.cell? ⟨rb, 0, none⟩ = some (.int .i64 qc) ∧ u.cell? ⟨rb, 1, none⟩ = some (.slice ra 0 rcc)) ∧ (u.cell? ⟨xb, 0, none⟩ = some (.int .i64 qc) ∧ u.cell? ⟨xb, 1, none⟩ = some (.slice xa 0 xcc)) ∧ u.cell? ⟨ab, 0, none⟩ = some (.int .i64 qc) ∧ u.cell? ⟨ab, 1, none⟩ = some (.slice al 0 ac)) := hide (fun u hb => ⟨X4.out.below hb, Y4.out.below hb, Z4.out.below hb⟩)
      have BD := hide ((Below.refl W4.heap.size W4).drew)
      refine wp_region_held_drew (S := fun u => (u.cell? ⟨rb, 0, none⟩ = some (.int .i64 qc) ∧ u.cell? ⟨rb, 1, none⟩ = some (.slice ra 0 rcc)) ∧ (u.cell? ⟨xb, 0, none⟩ = some (.int .i64 qc) ∧ u.cell? ⟨xb, 1, none⟩ = some (.slice xa 0 xcc)) ∧ u.cell? ⟨ab, 0, none⟩ = some (.int .i64 qc) ∧ u.cell? ⟨ab, 1, none⟩ = some (.slice al 0 ac)) (by kernel_rfl) (KB.out _ BD.out) (fun hHeld => ?_)
      change wpAnyH _ _ _ _ _ _ (Array.replicate _ false) _ _
      refine tk 0 33 (.pointer (some ⟨rb, 0, none⟩)) hHeld rfl (by kernel_rfl) (by kernel_rfl) (by kernel_rfl) (fun _ _ _ h => h) (Or.inl ⟨by rfl, ?_⟩) ?_
      · rintro w ⟨⟨r0, r1⟩, ⟨x0, x1⟩, z0, z1⟩
        go_simp <;> (first | done | omega | (intro _; omega))
      try simp only [Act.put, List.setIfInBounds_toArray, List.set_cons_zero, List.set_cons_succ]
      refine tk 1 34 (.int .i64 qc) hHeld rfl (by kernel_rfl) (by kernel_rfl) (by kernel_rfl) (fun _ _ _ h => h) (Or.inl ⟨by rfl, ?_⟩) ?_
      · rintro w ⟨⟨r0, r1⟩, ⟨x0, x1⟩, z0, z1⟩
        go_simp <;> (first | done | omega | (intro _; omega))
      try simp only [Act.put, List.setIfInBounds_toArray, List.set_cons_zero, List.set_cons_succ]
      refine tk 2 35 (.pointer (some ⟨xb, 0, none⟩)) hHeld rfl (by kernel_rfl) (by kernel_rfl) (by kernel_rfl) (fun _ _ _ h => h) (Or.inl ⟨by rfl, ?_⟩) ?_
      · rintro w ⟨⟨r0, r1⟩, ⟨x0, x1⟩, z0, z1⟩
        go_simp <;> (first | done | omega | (intro _; omega))
      try simp only [Act.put, List.setIfInBounds_toArray, List.set_cons_zero, List.set_cons_succ]
      refine tk 3 36 (.int .i64 qc) hHeld rfl (by kernel_rfl) (by kernel_rfl) (by kernel_rfl) (fun _ _ _ h => h) (Or.inl ⟨by rfl, ?_⟩) ?_
      · rintro w ⟨⟨r0, r1⟩, ⟨x0, x1⟩, z0, z1⟩
        go_simp <;> (first | done | omega | (intro _; omega))
      try simp only [Act.put, List.setIfInBounds_toArray, List.set_cons_zero, List.set_cons_succ]
      refine tk 4 37 (.bool false) hHeld rfl (by kernel_rfl) (by kernel_rfl) (by kernel_rfl) (fun _ _ _ h => h) (Or.inl ⟨by rfl, ?_⟩) ?_
      · rintro w ⟨⟨r0, r1⟩, ⟨x0, x1⟩, z0, z1⟩
        go_simp <;> (first | done | omega | (intro _; omega))
      try simp only [Act.put, List.setIfInBounds_toArray, List.set_cons_zero, List.set_cons_succ]
      refine tk 5 38 (.bool false) hHeld rfl (by kernel_rfl) (by kernel_rfl) (by kernel_rfl) (fun _ _ _ h => h) (Or.inl ⟨by rfl, ?_⟩) ?_
      · rintro w ⟨⟨r0, r1⟩, ⟨x0, x1⟩, z0, z1⟩
        go_simp <;> (first | done | omega | (intro _; omega))
      try simp only [Act.put, List.setIfInBounds_toArray, List.set_cons_zero, List.set_cons_succ]
      refine tk 6 39 (.pointer (some ⟨ab, 0, none⟩)) hHeld rfl (by kernel_rfl) (by kernel_rfl) (by kernel_rfl) (fun _ _ _ h => h) (Or.inl ⟨by rfl, ?_⟩) ?_
      · rintro w ⟨⟨r0, r1⟩, ⟨x0, x1⟩, z0, z1⟩
        go_simp <;> (first | done | omega | (intro _; omega))
      try simp only [Act.put, List.setIfInBounds_toArray, List.set_cons_zero, List.set_cons_succ]
      refine tk 7 40 (.int .i64 qc) hHeld rfl (by kernel_rfl) (by kernel_rfl) (by kernel_rfl) (fun _ _ _ h => h) (Or.inl ⟨by rfl, ?_⟩) ?_
      · rintro w ⟨⟨r0, r1⟩, ⟨x0, x1⟩, z0, z1⟩
        go_simp <;> (first | done | omega | (intro _; omega))
      try simp only [Act.put, List.setIfInBounds_toArray, List.set_cons_zero, List.set_cons_succ]
      refine tk 8 41 (.slice va ls.length vc) hHeld rfl (by kernel_rfl) (by kernel_rfl) (by kernel_rfl) (fun _ _ _ h => h) (Or.inl ⟨by rfl, ?_⟩) ?_
      · rintro w ⟨⟨r0, r1⟩, ⟨x0, x1⟩, z0, z1⟩
        go_simp <;> (first | done | omega | (intro _; omega))
      try simp only [Act.put, List.setIfInBounds_toArray, List.set_cons_zero, List.set_cons_succ]
      refine tk 9 42 (.slice ca n cc) hHeld rfl (by kernel_rfl) (by kernel_rfl) (by kernel_rfl) (fun _ _ _ h => h) (Or.inl ⟨by rfl, ?_⟩) ?_
      · rintro w ⟨⟨r0, r1⟩, ⟨x0, x1⟩, z0, z1⟩
        go_simp <;> (first | done | omega | (intro _; omega))
      try simp only [Act.put, List.setIfInBounds_toArray, List.set_cons_zero, List.set_cons_succ]
      refine tk 10 43 (.string (str q)) hHeld rfl (by kernel_rfl) (by kernel_rfl) (by kernel_rfl) (fun _ _ _ h => h) (Or.inl ⟨by rfl, ?_⟩) ?_
      · rintro w ⟨⟨r0, r1⟩, ⟨x0, x1⟩, z0, z1⟩
        go_simp <;> (first | done | omega | (intro _; omega))
      try simp only [Act.put, List.setIfInBounds_toArray, List.set_cons_zero, List.set_cons_succ]
      refine wpAnyH_ready (rs := [11]) (by kernel_rfl) (by simp) ?_
      refine AllReadyH.cons rfl (fun K hK => ?_) AllReadyH.nil
      go_simp
      refine (HSA.out _ (below_next B4.out BD.out)).mono ?_
      rintro r w8 ⟨sa, sc, rfl, hg8, hb8⟩
      have BB8 := hide (BD.out.trans hb8)
      clear hg8 hb8
      go_wp2_with fail
      refine hK.out _ _ (KB.out _ BB8.out) (fun hHeld => ?_)
      clear hK K
      try simp only [Act.put, List.setIfInBounds_toArray, List.set_cons_zero, List.set_cons_succ]
      refine tk 12 45 (.int .i64 qc) hHeld rfl (by kernel_rfl) (by kernel_rfl) (by kernel_rfl) (fun _ _ _ h => h) (Or.inl ⟨by rfl, ?_⟩) ?_
      · rintro w ⟨⟨r0, r1⟩, ⟨x0, x1⟩, z0, z1⟩
        kernel_rfl
      try simp only [Act.put, List.setIfInBounds_toArray, List.set_cons_zero, List.set_cons_succ]
      refine tk 13 46 (.bool false) hHeld rfl (by kernel_rfl) (by kernel_rfl) (by kernel_rfl) (fun _ _ _ h => h) (Or.inl ⟨by rfl, ?_⟩) ?_
      · rintro w ⟨⟨r0, r1⟩, ⟨x0, x1⟩, z0, z1⟩
        go_simp <;> (first | done | omega | (intro _; omega))
      try simp only [Act.put, List.setIfInBounds_toArray, List.set_cons_zero, List.set_cons_succ]
      refine tk 14 47 (.bool false) hHeld rfl (by kernel_rfl) (by kernel_rfl) (by kernel_rfl) (fun _ _ _ h => h) (Or.inl ⟨by rfl, ?_⟩) ?_
      · rintro w ⟨⟨r0, r1⟩, ⟨x0, x1⟩, z0, z1⟩
        go_simp <;> (first | done | omega | (intro _; omega))
      try simp only [Act.put, List.setIfInBounds_toArray, List.set_cons_zero, List.set_cons_succ]
      refine wpAnyH_done (by kernel_rfl) ?_ _
      obtain ⟨⟨r0, r1⟩, ⟨x0, x1⟩, z0, z1⟩ := KB.out w8 BB8.out
      go_wp2_with fail
      go_ret
      exact ⟨rfl, below_next B1.out (below_next B4.out BB8.out)⟩

set_option maxRecDepth 100000 in
theorem lifted (os : Os) (started : os.Started) (H : Type) (enc : TypeId × Value → H) :
    ReturnsInHanded {} Tryz.checked os 3 .any (Rows.fnLazySpec.pre6 enc Tryz.prog Tryz.f3 Rows.fnLazyRow.domain false) (Rows.fnLazySpec.post enc Tryz.prog Tryz.f3 false true false false) := by
  refine returnsInHanded_of_change (C := Tryz.checked) own started (by kernel_rfl) Tryz.func3
    (ChangeSpec.witness6 (enc := enc) (C := Tryz.checked) false ⟨#[], #[.slice none 0 0], []⟩ 8 (by kernel_rfl) (by kernel_rfl) (by kernel_rfl) (by kernel_rfl)) ?_
  intro W base args ds gs before hval0 hW hcnd _
  have hval : ∀ (j : Nat) t v, Tryz.f3.params[j]? = some t → args[j]? = some v → Value.okWide Tryz.prog W .any base t v := hval0
  have hW' := hW
  obtain ⟨p, q, hA0, hV, rfl, hfz, hnd⟩ := hW
  have hA : DataW.TrodAll enc Tryz.prog W 0 (fun _ => true) true Tryz.f3.params.toList args.toList ds p := hA0
  rw [Tryz.params3] at hA hval
  obtain ⟨v0, vs0, d0, ds0, p0, q0, hargs, rfl, rfl, h0, r0⟩ := trodAll_cons hA
  obtain ⟨rfl, rfl, rfl⟩ := trodAll_nil r0
  obtain rfl : args = #[v0] := by cases args; simp_all
  obtain ⟨rfl, rfl⟩ := trodVars_none hV
  obtain ⟨a0, len0, cap0, rfl⟩ := okWide_slice Tryz.underlying22 (hval 0 22 v0 rfl rfl)
  have k0 := h0
  have lt0 : ∀ x ∈ p0, x.block < W.heap.size := by obtain ⟨m, hm⟩ := k0; exact DataW.trod_lt m _ _ _ hm
  obtain ⟨zs, hlen, hread, hu, hmax⟩ : ∃ zs : List Int, zs.length = len0 ∧ Reads .u8 W a0 zs ∧ U8 zs ∧ zs.length ≤ maxLen := by
    obtain ⟨fuel, hf⟩ := h0
    rcases open_ints Tryz.underlying22 Tryz.underlying5 (by kernel_rfl) hf with ⟨hcs, _⟩ | ⟨x, l, c, zs, hcs, _, hl, hm, hz, _, hcell, hwz⟩
    · simp [Value.cells] at hcs
      obtain ⟨rfl, rfl, rfl⟩ := hcs
      exact ⟨[], rfl, fun h => absurd rfl h, fun z hz => by simp at hz, Nat.zero_le _⟩
    · simp [Value.cells] at hcs
      obtain ⟨rfl, rfl, rfl⟩ := hcs
      exact reads_of_row (by simpa using hz) hl hm hcell hwz
  subst hlen
  clear hA0 hval0
  refine (walk a0 cap0 zs W hread hu hmax).mono fun e W' ⟨he, bel⟩ => ?_
  subst he
  exact ⟨_, rfl, _, _, _, [], _, [], hW', trodAll_mk1 (shut_bool Tryz.underlying4 _), (trodAll_cons_mk (Below.trod laidOut (by kernel_rfl) (of_decide_eq_true (by kernel_rfl)) k0 bel lt0) trodAll_mk0), rfl, bel.frame _, fun h => by cases h⟩

theorem over : Rows.fnLazyRow.holds Tryz.pinned (OpenSpec.ofChange Rows.fnLazySpec) :=
  OpenClaim.holds_of_wide 3 Tryz.f3 rfl rfl rfl rfl rfl rfl rfl ⟨rfl, rfl, rfl, rfl, rfl⟩ rfl rfl rfl rfl rfl (by kernel_rfl) Tryz.func3 (by kernel_rfl)
    (of_decide_eq_true (by kernel_rfl)) (by unfold Func.isWrapper; first | (rw [if_pos (by decide +kernel)]; kernel_rfl) | (rw [if_neg (by decide +kernel)]; exact ⟨rfl, rfl⟩))
    (fun os started H enc _ => lifted os started H enc)

end Go.Proofs.YtejipahfodhmjaaGreat.fnLazy
namespace Go.Proofs.YtejipahfodhmjaaGreat
theorem fnLazy_holds : Rows.FnLazySaid := fnLazy.over
#print axioms fnLazy_holds
end Go.Proofs.YtejipahfodhmjaaGreat

