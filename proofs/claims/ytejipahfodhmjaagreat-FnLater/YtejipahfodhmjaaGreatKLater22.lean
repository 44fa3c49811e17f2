/-
  At every byte slice the law FnLater returns true: what was read is read again when more has come. No condition.
-/
import Derived.Test.YtejipahfodhmjaaGreatKLater21
import Derived.ProofKit
import Derived.Deep.CutRange
import Derived.OpenShut
import Derived.ShutString
import Derived.ChangeOld
import Derived.Deep.DrawnRows
import Derived.Deep.RegionHeld3
namespace Go.Proofs.YtejipahfodhmjaaGreat.fnLater
open Go.ChangeShapes Go.WideShapes Go.ChangeAt Go.RowKit Go.Maps
set_option linter.unusedVariables false
attribute [local go_sem ↓] Go.wp_at_zero Go.wp_at_succ

theorem own : ownKnob Tryz.prog.godebug = none := by kernel_rfl
theorem laidOut : laidOutB Tryz.prog = true := by kernel_rfl
theorem tk {P : Program} {ops : Array Oper} {Q : Exit → Act → World → Prop} {md : Region.Mode} {S : World → Prop} (i d : Nat) (v : Value) {op : Op} {ty : TypeId} {pos : String} {af : Array Edge} {gd : Option (Nat × Bool)} {fuel : Nat} {listed : Array Bool} {a : Act} {w : World} (hS : S w) (hi : ops[i]? = some { dst := some d, op := op, type := ty, pos := pos, after := af, guard := gd })
    (hs : Region.noSelect ops = true) (hf : Region.free md ops listed i = true) (hr : (Region.ready md ops listed).contains i = true) (hQ : ∀ c a w, Q (.panic c) (a.put (some d) v) w → Q (.panic c) a w) (hy : YieldsIf P ops S { dst := some d, op := op, type := ty, pos := pos, after := af, guard := gd } v a)
    (h : wpAnyH P md ops Q S fuel (listed.setIfInBounds i true) (a.put (some d) v) w) : wpAnyH P md ops Q S (fuel + 1) listed a w := wpAnyH_take hi hs hf hr hQ hy hS h

theorem lwBig_no (a : Option Addr) (cap : Nat) (n : Nat) (w : World) (h : n ≤ 1048576) :
    Calls Tryz.prog 7 #[.slice a n cap] w fun e w' => e = .returned (.bool false) ∧ w' = w := by
  have hb : ¬ (1048576 : Int) < (n : Int) := by omega
  go_enter Tryz.func7, Tryz.ntmps7
  go_wp2
  go_ret
  exact ⟨ret_bool (by simp <;> omega), rfl⟩
theorem lwBig_yes (a : Option Addr) (cap : Nat) (n : Nat) (w : World) (h : 1048576 < n) (h2 : n ≤ maxLen) :
    Calls Tryz.prog 7 #[.slice a n cap] w fun e w' => e = .returned (.bool true) ∧ w' = w := by
  have hb : (1048576 : Int) < (n : Int) := by omega
  unfold maxLen at h2
  go_enter Tryz.func7, Tryz.ntmps7
  go_wp2
  go_ret
  exact ⟨ret_bool (by simp <;> omega), rfl⟩
set_option maxRecDepth 100000 in
set_option maxHeartbeats 25600000 in
theorem walk (a0 : Option Addr) (cap0 : Nat) (zs : List Int) (w : World) (h : Reads .u8 w a0 zs) (hu : U8 zs) (hmax : zs.length ≤ maxLen) :
    Calls Tryz.prog 4 #[.slice a0 zs.length cap0] w fun e w' => e = .returned (.bool true) ∧ Below w.heap.size w w' := by
  have HR := hide h
  have HU := hide hu
  clear h hu
  obtain ⟨i0, ki0, kz0, kz1, kz2⟩ := info_parts Tryz.infoU8
  by_cases hbig : 1048576 < zs.length
  · go_enter Tryz.func4, Tryz.ntmps4
    go_wp2_with fail
    refine (lwBig_yes _ _ _ _ hbig hmax).mono ?_
    rintro e w ⟨rfl, rfl⟩
    go_wp2_with fail
    go_ret
    exact ⟨rfl, Below.refl _ _⟩
  · have hm1 : 1 + zs.length ≤ maxLen := by unfold maxLen; omega
    have hm2 : (1 + zs.length) * 1 ≤ 140737488355328 := by omega
    go_enter Tryz.func4, Tryz.ntmps4
    go_wp2_with fail
    refine (lwBig_no _ _ _ _ (by omega)).mono ?_
    rintro e w ⟨rfl, rfl⟩
    go_wp2_with fail
    refine (drawReadOver_any a0 cap0 zs _ HR.out HU.out (by omega)).mono ?_
    rintro e w1 ⟨va, vc, ls, ca, cc, n, D, P, q, rfl, hgl, hrl, hrc, hn41, hsm, hql, hb1⟩
    have HRL := hide hrl
    have HRC := hide hrc
    have B1 := hide hb1
    have HR1 := hide (HR.out.below hb1)
    have HSL := hide hgl.2.1
    have HGd := hide (fun es he => (hgl.2.2 es he).2)
    have HP := hide (show ∀ i, i < n → U8 (P i) ∧ (P i).length ≤ 1048576 from fun i hi => ⟨(hsm i hi).1, by have := (hsm i hi).2; omega⟩)
    have hl5 := hgl.1
    have hl : ls.length ≤ 1048576 := by omega
    have hn : n ≤ 1048576 := by omega
    clear hgl hrl hrc hb1 hsm HR
    obtain ⟨qc, bs, hir, hsr, hcase⟩ : ∃ (qc : Int) (bs : List Int), (∀ u : World, Below w1.heap.size w1 u → Calls Tryz.prog 9 #[.slice va ls.length vc, .slice ca n cc, .string (str q)] u (ResB qc bs u)) ∧ (∀ u : World, Below w1.heap.size w1 u → Calls Tryz.prog 10 #[.slice va ls.length vc, .slice ca n cc, .string (str q)] u (ResB qc bs u)) ∧ ((qc ≠ 0 ∧ qc ≠ 8) ∨ ∃ e, FilE ls D P n q e ∧ rdQ D P n e = (qc, bs)) := by
      by_cases hz : filC ls D P n q = 0
      · obtain ⟨e, hE⟩ := fil_zero hz
        exact ⟨(rdQ D P n e).1, (rdQ D P n e).2, fun u hb => implReadOver_ok va vc ls.length ls ca cc n D P q u (HRL.out.below hb) rfl hl HSL.out (HRC.out.below hb) hn HP.out hql e hE, fun u hb => specReadOver_ok va vc ls.length ls ca cc n D P q u (HRL.out.below hb) rfl hl HSL.out HGd.out (HRC.out.below hb) hn HP.out hql e hE, .inr ⟨e, hE, rfl⟩⟩
      · exact ⟨filC ls D P n q, [], fun u hb => implReadOver_bad va vc ls.length ls ca cc n D P q u (HRL.out.below hb) rfl hl HSL.out (HRC.out.below hb) hn HP.out hql _ rfl hz, fun u hb => specReadOver_bad va vc ls.length ls ca cc n D P q u (HRL.out.below hb) rfl hl HSL.out HGd.out (HRC.out.below hb) hn HP.out hql _ rfl hz, .inl ⟨hz, fil_ne8 _ _ _ _ _⟩⟩
    have HIR := hide hir
    have HSR := hide hsr
    have HCS := hide hcase
    clear hir hsr hcase
    have hqe : (qc == qc) = true := by simp
    go_wp2_with fail
    refine (HIR.out _ (Below.refl _ _)).mono ?_
    rintro r w2 ⟨ra, rcc, rfl, hg2, hb2⟩
    have A2 := hide (below_alloc w2 (.cells #[.int .i64 qc, .slice ra bs.length rcc] 29))
    have X2 := hide (Two.new w2 (.int .i64 qc) (.slice ra bs.length rcc) 29)
    have B2 := hide (below_next hb2 A2.out)
    have O2 := hide (ownsRow_below hg2.1 A2.out)
    clear hg2 hb2 A2 HIR
    go_upto_region 5 with fail
    generalize w2.alloc (.cells #[.int .i64 qc, .slice ra bs.length rcc] 29) = W2 at *
    obtain ⟨rb, hrb⟩ : ∃ rb, rb = w2.heap.size := ⟨_, rfl⟩
    rw [← hrb] at X2 ⊢
    clear hrb
    obtain ⟨r0, r1⟩ := X2.out
    by_cases hq : qc ≠ 0 ∧ qc ≠ 8
    · have hq0 : (qc != 0) = true := by simpa using hq.1
      have hq8 : (qc != 8) = true := by simpa using hq.2
      clear hq HCS
      go_upto_region 6 with fail
      clear r0 r1
      have BD := hide ((Below.refl W2.heap.size W2).drew)
      have KB : Hid (∀ u : World, Below W2.heap.size W2 u → u.cell? ⟨rb, 0, none⟩ = some (.int .i64 qc)) := hide (fun u hb => (X2.out.below hb).1)
      refine wp_region_held_drew (S := fun u => u.cell? ⟨rb, 0, none⟩ = some (.int .i64 qc)) (by kernel_rfl) (KB.out _ BD.out) (fun hHeld => ?_)
      change wpAnyH _ _ _ _ _ _ (Array.replicate _ false) _ _
      refine tk 0 32 (.slice va ls.length vc) hHeld rfl (by kernel_rfl) (by kernel_rfl) (by kernel_rfl) (fun _ _ _ h => h) (Or.inl ⟨by rfl, ?_⟩) ?_
      · rintro w r0
        go_simp <;> (first | done | omega | (intro _; omega))
      try simp only [Act.put, List.setIfInBounds_toArray, List.set_cons_zero, List.set_cons_succ]
      refine tk 1 33 (.slice ca n cc) hHeld rfl (by kernel_rfl) (by kernel_rfl) (by kernel_rfl) (fun _ _ _ h => h) (Or.inl ⟨by rfl, ?_⟩) ?_
      · rintro w r0
        go_simp <;> (first | done | omega | (intro _; omega))
      try simp only [Act.put, List.setIfInBounds_toArray, List.set_cons_zero, List.set_cons_succ]
      refine tk 2 34 (.string (str q)) hHeld rfl (by kernel_rfl) (by kernel_rfl) (by kernel_rfl) (fun _ _ _ h => h) (Or.inl ⟨by rfl, ?_⟩) ?_
      · rintro w r0
        go_simp <;> (first | done | omega | (intro _; omega))
      try simp only [Act.put, List.setIfInBounds_toArray, List.set_cons_zero, List.set_cons_succ]
      refine tk 5 37 (.pointer (some ⟨rb, 0, none⟩)) hHeld rfl (by kernel_rfl) (by kernel_rfl) (by kernel_rfl) (fun _ _ _ h => h) (Or.inl ⟨by rfl, ?_⟩) ?_
      · rintro w r0
        go_simp <;> (first | done | omega | (intro _; omega))
      try simp only [Act.put, List.setIfInBounds_toArray, List.set_cons_zero, List.set_cons_succ]
      refine tk 6 38 (.int .i64 qc) hHeld rfl (by kernel_rfl) (by kernel_rfl) (by kernel_rfl) (fun _ _ _ h => h) (Or.inl ⟨by rfl, ?_⟩) ?_
      · rintro w r0
        go_simp <;> (first | done | omega | (intro _; omega))
      try simp only [Act.put, List.setIfInBounds_toArray, List.set_cons_zero, List.set_cons_succ]
      refine wpAnyH_ready (rs := [3]) (by kernel_rfl) (by simp) ?_
      refine AllReadyH.cons rfl (fun K hK => ?_) AllReadyH.nil
      go_simp
      refine (HSR.out _ (below_next B2.out BD.out)).mono ?_
      rintro r w8 ⟨xa, xcc, rfl, hg8, hb8⟩
      have BB8 := hide (BD.out.trans hb8)
      clear hg8 hb8
      go_wp2_with fail
      refine hK.out _ _ (KB.out _ BB8.out) (fun hHeld => ?_)
      clear hK K
      try simp only [Act.put, List.setIfInBounds_toArray, List.set_cons_zero, List.set_cons_succ]
      refine tk 4 36 (.int .i64 qc) hHeld rfl (by kernel_rfl) (by kernel_rfl) (by kernel_rfl) (fun _ _ _ h => h) (Or.inl ⟨by rfl, ?_⟩) ?_
      · rintro w r0
        kernel_rfl
      try simp only [Act.put, List.setIfInBounds_toArray, List.set_cons_zero, List.set_cons_succ]
      refine tk 7 39 (.bool true) hHeld rfl (by kernel_rfl) (by kernel_rfl) (by kernel_rfl) (fun _ _ _ h => h) (Or.inl ⟨by rfl, ?_⟩) ?_
      · rintro w r0
        go_simp <;> (first | done | omega | (intro _; omega))
      try simp only [Act.put, List.setIfInBounds_toArray, List.set_cons_zero, List.set_cons_succ]
      refine tk 8 2 (.bool true) hHeld rfl (by kernel_rfl) (by kernel_rfl) (by kernel_rfl) (fun _ _ _ h => h) (Or.inl ⟨by rfl, ?_⟩) ?_
      · rintro w r0
        go_simp <;> (first | done | omega | (intro _; omega))
      try simp only [Act.put, List.setIfInBounds_toArray, List.set_cons_zero, List.set_cons_succ]
      refine wpAnyH_done (by kernel_rfl) ?_ _
      have r0 := KB.out w8 BB8.out
      go_wp2_with fail
      go_ret
      exact ⟨rfl, below_next B1.out (below_next B2.out BB8.out)⟩
    · obtain ⟨e, hE, hrd⟩ : ∃ e, FilE ls D P n q e ∧ rdQ D P n e = (qc, bs) := by
        rcases HCS.out with h1 | h1
        · exact absurd h1 hq
        · exact h1
      have HE := hide hE
      have HRD := hide hrd
      have HRt := hide (fault_zero hE.flt)
      have hq2 : qc = 0 ∨ qc = 8 := by omega
      clear hE hrd HCS hq hqe
      rcases hq2 with hq2 | hq2
      · subst hq2
        go_wp2_with fail
        clear r0 r1
        go_loopw [7, 8, 9, 10] (fun v7 v8 _ _ wr => ∃ k : Nat, k ≤ 6 ∧ v8 = .int .u8 k ∧ ∃ (a' : Option Addr) (c' n' : Nat) (D' : Nat → Int) (P' : Nat → List Int), v7 = .slice a' n' c' ∧ Hid (RdC wr a' D' P' n') ∧ Hid (Mor D P n D' P' n') ∧ Hid (Below W2.heap.size W2 wr)) (fun _ v8 _ _ _ => 6 - (intOf v8).toNat)
        case atStart => exact ⟨0, by omega, rfl, ca, cc, n, D, P, rfl, hide (HRC.out.below B2.out), hide ⟨HRt.out, fun i hi => (HP.out i hi).1, Gro.refl _ _ _⟩, hide (Below.refl _ _)⟩
        case round =>
          obtain ⟨k, hk, rfl, a', c', n', D', P', rfl, HC, HM, BW⟩ := hrel
          have hn40 := HM.out.right.many
          by_cases hlt : k < 6
          · have hlt' : (k : Int) < 6 := by omega
            have HRW := hide (HR1.out.below (below_next B2.out BW.out))
            have R3 : Hid (Reads .u8 (wr.alloc (.cells #[.int .u8 (k : Int)] 5)) a0 zs) := hide (HRW.out.below (below_alloc _ _))
            have O3 : Hid ((wr.alloc (.cells #[.int .u8 (k : Int)] 5)).ownsRow wr.heap.size 5 1 (.slice (some ⟨wr.heap.size, 0, none⟩) 1 1) 1 ([(k : Int)].map (Value.int .u8))) := hide ⟨rfl, .inr ⟨wr.heap.size, 1, #[.int .u8 (k : Int)], rfl, Nat.le_refl _, heap_alloc_new wr _, Nat.le_refl _, by decide, rfl, rfl⟩⟩
            have hs3 : wr.heap.size ≤ (wr.alloc (.cells #[.int .u8 (k : Int)] 5)).heap.size := by simp
            go_wp2_with (first | (at_builtin; refine wpList_append_reads rfl (.tmp 46) (.tmp 47) 22 rfl wr.heap.size 5 i0 .u8 (.slice 5) Tryz.underlying22 ki0 kz0 kz1 kz2 wr.heap.size 1 1 [(k : Int)] rfl O3.out a0 zs.length cap0 zs rfl rfl R3.out hm1 hm2 hs3 ?_; intro av0 ac0 w4 ho4 hk4; have O4 := hide ho4; have K4 := hide hk4; clear ho4 hk4) | fail)
            have k4 : Below wr.heap.size wr w4 := (below_alloc wr (.cells #[.int .u8 (k : Int)] 5)).trans (K4.out.below (B := wr.heap.size) hs3 (fun b hb e => by omega))
            have hlen : 1 + zs.length = ([(k : Int)] ++ zs).length := by simp; omega
            have hu2 : U8 ([(k : Int)] ++ zs) := fun z hz => by
              rcases List.mem_append.1 hz with hz | hz
              · simp at hz; omega
              · exact HU.out z hz
            have R4 : Hid (Reads .u8 w4 av0 ([(k : Int)] ++ zs)) := hide (ownsRow_own O4.out hlen).reads
            have HDg := hide (drawDigestOf_big av0 ac0 ([(k : Int)] ++ zs) w4 R4.out hu2 (by rw [← hlen]; omega))
            have KK4 := hide k4
            clear R4 O4 K4 k4 O3 R3 hu2 HRW hs3
            rw [hlen]
            clear hlen
            refine HDg.out.mono ?_
            rintro e5 w5 ⟨v, ds, rfl, hds, hU, hown, b5⟩
            obtain ⟨av, ac, rfl⟩ := ownsRow_shape hown
            have hac := ownsRow_cap hown
            have O5 := hide (ownsRow_own hown rfl).reads
            have KK5 := hide (below_next KK4.out b5)
            have BW5 := hide (below_next BW.out KK5.out)
            have HC5 := hide (HC.out.below KK5.out)
            have hgt : ¬ (24 : Int) < (ds.length : Int) := by omega
            obtain ⟨pq, t, hres, hpq⟩ := HM.out.put hU
            have HPB := hide (implBytes_ok a' c' n' D' P' av ac ds w5 HC5.out (by omega) HM.out.small (fault_right HM.out.right) O5.out hU hac (by omega) pq t hres)
            obtain ⟨D2, P2, n2⟩ := t
            simp only at HPB hpq
            clear hown hU b5 HDg hres KK4 KK5 O5
            go_wp2_with fail
            refine HPB.out.mono ?_
            rintro e6 w6 ⟨b', d', rfl, hG6, hb6⟩
            have A6 := hide (below_alloc w6 (.cells #[.int .i64 pq, .slice b' n2 d'] 44))
            obtain ⟨p0, p1⟩ := Two.new w6 (.int .i64 pq) (.slice b' n2 d') 44
            have HC6 := hide (hG6.rd.below A6.out)
            have HC7 := hide ((HC5.out.below hb6).below A6.out)
            have BW6 := hide (below_next BW5.out (below_next hb6 A6.out))
            clear hG6 hb6 A6 HC5 BW5 HPB
            rcases hpq with ⟨hp0, hM2⟩ | hp2
            · subst hp0
              have HM2 := hide hM2
              clear hM2
              go_wp2_with fail
              go_roundw
              case rel => exact ⟨k + 1, by omega, by go_num, b', d', n2, D2, P2, rfl, HC6, HM2, BW6⟩
              case measure => simp [intOf]; omega
            · subst hp2
              go_wp2_with fail
              go_roundw
              case rel => exact ⟨k + 1, by omega, by go_num, a', c', n', D', P', rfl, HC7, HM, BW6⟩
              case measure => simp [intOf]; omega
          · have hlt' : ¬ (k : Int) < 6 := by omega
            have BX := hide (below_next B2.out BW.out)
            have HRE := hide (implReadOver_ok va vc ls.length ls a' c' n' D' P' q wr (HRL.out.below BX.out) rfl hl HSL.out HC.out (by omega) HM.out.small hql e ⟨HE.out.lays, fault_right HM.out.right, HE.out.plc, HE.out.look, HE.out.find, HE.out.kind, HE.out.ent⟩)
            have HGR := hide (gro_read HM.out.gro (e := e) (by rw [HRD.out]))
            rw [HGR.out, HRD.out] at HRE
            simp only at HRE
            go_wp2_with fail
            refine HRE.out.mono ?_
            rintro r w8 ⟨ya, yc, rfl, hg8, hb8⟩
            have A8 := hide (below_alloc w8 (.cells #[.int .i64 0, .slice ya bs.length yc] 29))
            have Y8 := hide (Two.new w8 (.int .i64 0) (.slice ya bs.length yc) 29)
            have P8 := hide (ownsRow_below hg8.1 A8.out)
            have BB8 := hide (below_next BW.out (below_next hb8 A8.out))
            clear hg8 hb8 A8 HRE BX HC HM
            go_upto_region 17 with fail
            generalize w8.alloc (.cells #[.int .i64 0, .slice ya bs.length yc] 29) = W8 at *
            obtain ⟨yb, hyb⟩ : ∃ yb, yb = w8.heap.size := ⟨_, rfl⟩
            rw [← hyb] at Y8 ⊢
            clear hyb
            have BY := hide (below_next B2.out BB8.out)
            have BD := hide ((Below.refl W8.heap.size W8).drew)
            have KB : Hid (∀ u : World, Below W8.heap.size W8 u → (u.cell? ⟨rb, 0, none⟩ = some (.int .i64 0) ∧ u.cell? ⟨rb, 1, none⟩ = some (.slice ra bs.length rcc)) ∧ (u.cell? ⟨yb, 0, none⟩ = some (.int .i64 0) ∧ u.cell? ⟨yb, 1, none⟩ = some (.slice ya bs.length yc)) ∧ Sem.run Tryz.prog (convert 22 9 (.slice ra bs.length rcc)) u = .ok (.string (strOfNums bs)) u ∧ Sem.run Tryz.prog (convert 22 9 (.slice ya bs.length yc)) u = .ok (.string (strOfNums bs)) u) := hide (fun u hb => ⟨X2.out.below (below_next BB8.out hb), Y8.out.below hb, convO (ownsRow_below O2.out (below_next BB8.out hb)), convO (ownsRow_below P8.out hb)⟩)
            obtain ⟨⟨r0, r1⟩, -, -, -⟩ := KB.out W8 (Below.refl _ _)
            have hee : ((strOfNums bs).toList == (strOfNums bs).toList) = true := by simp
            go_upto_region 18 with fail
            clear r0 r1
            refine wp_region_held_drew (S := fun u => (u.cell? ⟨rb, 0, none⟩ = some (.int .i64 0) ∧ u.cell? ⟨rb, 1, none⟩ = some (.slice ra bs.length rcc)) ∧ (u.cell? ⟨yb, 0, none⟩ = some (.int .i64 0) ∧ u.cell? ⟨yb, 1, none⟩ = some (.slice ya bs.length yc)) ∧ Sem.run Tryz.prog (convert 22 9 (.slice ra bs.length rcc)) u = .ok (.string (strOfNums bs)) u ∧ Sem.run Tryz.prog (convert 22 9 (.slice ya bs.length yc)) u = .ok (.string (strOfNums bs)) u) (by kernel_rfl) (KB.out _ BD.out) (fun hHeld => ?_)
            change wpAnyH _ _ _ _ _ _ (Array.replicate _ false) _ _
            refine tk 0 68 (.pointer (some ⟨yb, 0, none⟩)) hHeld rfl (by kernel_rfl) (by kernel_rfl) (by kernel_rfl) (fun _ _ _ h => h) (Or.inl ⟨by rfl, ?_⟩) ?_
            · rintro w ⟨⟨r0, r1⟩, ⟨y0, y1⟩, cvr, cvy⟩
              go_simp <;> (first | done | omega | (intro _; omega))
            try simp only [Act.put, List.setIfInBounds_toArray, List.set_cons_zero, List.set_cons_succ]
            refine tk 1 69 (.int .i64 0) hHeld rfl (by kernel_rfl) (by kernel_rfl) (by kernel_rfl) (fun _ _ _ h => h) (Or.inl ⟨by rfl, ?_⟩) ?_
            · rintro w ⟨⟨r0, r1⟩, ⟨y0, y1⟩, cvr, cvy⟩
              go_simp <;> (first | done | omega | (intro _; omega))
            try simp only [Act.put, List.setIfInBounds_toArray, List.set_cons_zero, List.set_cons_succ]
            refine tk 2 70 (.bool true) hHeld rfl (by kernel_rfl) (by kernel_rfl) (by kernel_rfl) (fun _ _ _ h => h) (Or.inl ⟨by rfl, ?_⟩) ?_
            · rintro w ⟨⟨r0, r1⟩, ⟨y0, y1⟩, cvr, cvy⟩
              go_simp <;> (first | done | omega | (intro _; omega))
            try simp only [Act.put, List.setIfInBounds_toArray, List.set_cons_zero, List.set_cons_succ]
            refine tk 3 71 (.bool true) hHeld rfl (by kernel_rfl) (by kernel_rfl) (by kernel_rfl) (fun _ _ _ h => h) (Or.inl ⟨by rfl, ?_⟩) ?_
            · rintro w ⟨⟨r0, r1⟩, ⟨y0, y1⟩, cvr, cvy⟩
              go_simp <;> (first | done | omega | (intro _; omega))
            try simp only [Act.put, List.setIfInBounds_toArray, List.set_cons_zero, List.set_cons_succ]
            refine tk 4 72 (.pointer (some ⟨yb, 1, none⟩)) hHeld rfl (by kernel_rfl) (by kernel_rfl) (by kernel_rfl) (fun _ _ _ h => h) (Or.inl ⟨by rfl, ?_⟩) ?_
            · rintro w ⟨⟨r0, r1⟩, ⟨y0, y1⟩, cvr, cvy⟩
              go_simp <;> (first | done | omega | (intro _; omega))
            try simp only [Act.put, List.setIfInBounds_toArray, List.set_cons_zero, List.set_cons_succ]
            refine tk 5 73 (.slice ya bs.length yc) hHeld rfl (by kernel_rfl) (by kernel_rfl) (by kernel_rfl) (fun _ _ _ h => h) (Or.inl ⟨by rfl, ?_⟩) ?_
            · rintro w ⟨⟨r0, r1⟩, ⟨y0, y1⟩, cvr, cvy⟩
              go_simp <;> (first | done | omega | (intro _; omega))
            try simp only [Act.put, List.setIfInBounds_toArray, List.set_cons_zero, List.set_cons_succ]
            refine tk 6 74 (.string (strOfNums bs)) hHeld rfl (by kernel_rfl) (by kernel_rfl) (by kernel_rfl) (fun _ _ _ h => h) (Or.inl ⟨by rfl, ?_⟩) ?_
            · rintro w ⟨⟨r0, r1⟩, ⟨y0, y1⟩, cvr, cvy⟩
              go_simp <;> (first | done | omega | (intro _; omega))
            try simp only [Act.put, List.setIfInBounds_toArray, List.set_cons_zero, List.set_cons_succ]
            refine tk 7 75 (.pointer (some ⟨rb, 1, none⟩)) hHeld rfl (by kernel_rfl) (by kernel_rfl) (by kernel_rfl) (fun _ _ _ h => h) (Or.inl ⟨by rfl, ?_⟩) ?_
            · rintro w ⟨⟨r0, r1⟩, ⟨y0, y1⟩, cvr, cvy⟩
              go_simp <;> (first | done | omega | (intro _; omega))
            try simp only [Act.put, List.setIfInBounds_toArray, List.set_cons_zero, List.set_cons_succ]
            refine tk 8 76 (.slice ra bs.length rcc) hHeld rfl (by kernel_rfl) (by kernel_rfl) (by kernel_rfl) (fun _ _ _ h => h) (Or.inl ⟨by rfl, ?_⟩) ?_
            · rintro w ⟨⟨r0, r1⟩, ⟨y0, y1⟩, cvr, cvy⟩
              go_simp <;> (first | done | omega | (intro _; omega))
            try simp only [Act.put, List.setIfInBounds_toArray, List.set_cons_zero, List.set_cons_succ]
            refine tk 9 77 (.string (strOfNums bs)) hHeld rfl (by kernel_rfl) (by kernel_rfl) (by kernel_rfl) (fun _ _ _ h => h) (Or.inl ⟨by rfl, ?_⟩) ?_
            · rintro w ⟨⟨r0, r1⟩, ⟨y0, y1⟩, cvr, cvy⟩
              go_simp <;> (first | done | omega | (intro _; omega))
            try simp only [Act.put, List.setIfInBounds_toArray, List.set_cons_zero, List.set_cons_succ]
            refine tk 10 78 (.bool true) hHeld rfl (by kernel_rfl) (by kernel_rfl) (by kernel_rfl) (fun _ _ _ h => h) (Or.inl ⟨by rfl, ?_⟩) ?_
            · rintro w ⟨⟨r0, r1⟩, ⟨y0, y1⟩, cvr, cvy⟩
              go_simp <;> (first | done | omega | (intro _; omega))
            try simp only [Act.put, List.setIfInBounds_toArray, List.set_cons_zero, List.set_cons_succ]
            refine tk 11 79 (.bool true) hHeld rfl (by kernel_rfl) (by kernel_rfl) (by kernel_rfl) (fun _ _ _ h => h) (Or.inl ⟨by rfl, ?_⟩) ?_
            · rintro w ⟨⟨r0, r1⟩, ⟨y0, y1⟩, cvr, cvy⟩
              go_simp <;> (first | done | omega | (intro _; omega))
            try simp only [Act.put, List.setIfInBounds_toArray, List.set_cons_zero, List.set_cons_succ]
            refine tk 12 80 (.bool true) hHeld rfl (by kernel_rfl) (by kernel_rfl) (by kernel_rfl) (fun _ _ _ h => h) (Or.inl ⟨by rfl, ?_⟩) ?_
            · rintro w ⟨⟨r0, r1⟩, ⟨y0, y1⟩, cvr, cvy⟩
              go_simp <;> (first | done | omega | (intro _; omega))
            try simp only [Act.put, List.setIfInBounds_toArray, List.set_cons_zero, List.set_cons_succ]
            refine tk 13 81 (.pointer (some ⟨rb, 1, none⟩)) hHeld rfl (by kernel_rfl) (by kernel_rfl) (by kernel_rfl) (fun _ _ _ h => h) (Or.inl ⟨by rfl, ?_⟩) ?_
            · rintro w ⟨⟨r0, r1⟩, ⟨y0, y1⟩, cvr, cvy⟩
              go_simp <;> (first | done | omega | (intro _; omega))
            try simp only [Act.put, List.setIfInBounds_toArray, List.set_cons_zero, List.set_cons_succ]
            refine tk 14 82 (.slice ra bs.length rcc) hHeld rfl (by kernel_rfl) (by kernel_rfl) (by kernel_rfl) (fun _ _ _ h => h) (Or.inl ⟨by rfl, ?_⟩) ?_
            · rintro w ⟨⟨r0, r1⟩, ⟨y0, y1⟩, cvr, cvy⟩
              go_simp <;> (first | done | omega | (intro _; omega))
            try simp only [Act.put, List.setIfInBounds_toArray, List.set_cons_zero, List.set_cons_succ]
            refine tk 15 83 (.string (strOfNums bs)) hHeld rfl (by kernel_rfl) (by kernel_rfl) (by kernel_rfl) (fun _ _ _ h => h) (Or.inl ⟨by rfl, ?_⟩) ?_
            · rintro w ⟨⟨r0, r1⟩, ⟨y0, y1⟩, cvr, cvy⟩
              go_simp <;> (first | done | omega | (intro _; omega))
            try simp only [Act.put, List.setIfInBounds_toArray, List.set_cons_zero, List.set_cons_succ]
            refine tk 16 84 (.slice va ls.length vc) hHeld rfl (by kernel_rfl) (by kernel_rfl) (by kernel_rfl) (fun _ _ _ h => h) (Or.inl ⟨by rfl, ?_⟩) ?_
            · rintro w ⟨⟨r0, r1⟩, ⟨y0, y1⟩, cvr, cvy⟩
              go_simp <;> (first | done | omega | (intro _; omega))
            try simp only [Act.put, List.setIfInBounds_toArray, List.set_cons_zero, List.set_cons_succ]
            refine tk 17 85 (.slice ca n cc) hHeld rfl (by kernel_rfl) (by kernel_rfl) (by kernel_rfl) (fun _ _ _ h => h) (Or.inl ⟨by rfl, ?_⟩) ?_
            · rintro w ⟨⟨r0, r1⟩, ⟨y0, y1⟩, cvr, cvy⟩
              go_simp <;> (first | done | omega | (intro _; omega))
            try simp only [Act.put, List.setIfInBounds_toArray, List.set_cons_zero, List.set_cons_succ]
            refine tk 18 86 (.string (str q)) hHeld rfl (by kernel_rfl) (by kernel_rfl) (by kernel_rfl) (fun _ _ _ h => h) (Or.inl ⟨by rfl, ?_⟩) ?_
            · rintro w ⟨⟨r0, r1⟩, ⟨y0, y1⟩, cvr, cvy⟩
              go_simp <;> (first | done | omega | (intro _; omega))
            try simp only [Act.put, List.setIfInBounds_toArray, List.set_cons_zero, List.set_cons_succ]
            refine wpAnyH_ready (rs := [19]) (by kernel_rfl) (by simp) ?_
            refine AllReadyH.cons rfl (fun K hK => ?_) AllReadyH.nil
            go_simp
            refine (HSR.out _ (below_next BY.out BD.out)).mono ?_
            rintro r w9 ⟨xa, xcc, rfl, hg9, hb9⟩
            have BB9 := hide (BD.out.trans hb9)
            have cvx := convO hg9.1
            clear hb9
            go_wp2_with fail
            refine hK.out _ _ (KB.out _ BB9.out) (fun hHeld => ?_)
            clear hK K
            try simp only [Act.put, List.setIfInBounds_toArray, List.set_cons_zero, List.set_cons_succ]
            refine tk 20 88 (.slice xa bs.length xcc) hHeld rfl (by kernel_rfl) (by kernel_rfl) (by kernel_rfl) (fun _ _ _ h => h) (Or.inl ⟨by rfl, ?_⟩) ?_
            · rintro w ⟨⟨r0, r1⟩, ⟨y0, y1⟩, cvr, cvy⟩
              kernel_rfl
            try simp only [Act.put, List.setIfInBounds_toArray, List.set_cons_zero, List.set_cons_succ]
            refine wpAnyH_ready (rs := [21]) (by kernel_rfl) (by simp) ?_
            refine AllReadyH.cons rfl (fun K hK => ?_) AllReadyH.nil
            go_simp
            refine hK.out _ _ (KB.out _ BB9.out) (fun hHeld => ?_)
            clear hK K
            try simp only [Act.put, List.setIfInBounds_toArray, List.set_cons_zero, List.set_cons_succ]
            refine tk 22 90 (.bool true) hHeld rfl (by kernel_rfl) (by kernel_rfl) (by kernel_rfl) (fun _ _ _ h => h) (Or.inl ⟨by rfl, ?_⟩) ?_
            · rintro w ⟨⟨r0, r1⟩, ⟨y0, y1⟩, cvr, cvy⟩
              go_simp <;> (first | done | omega | (intro _; omega))
            try simp only [Act.put, List.setIfInBounds_toArray, List.set_cons_zero, List.set_cons_succ]
            refine tk 23 91 (.bool true) hHeld rfl (by kernel_rfl) (by kernel_rfl) (by kernel_rfl) (fun _ _ _ h => h) (Or.inl ⟨by rfl, ?_⟩) ?_
            · rintro w ⟨⟨r0, r1⟩, ⟨y0, y1⟩, cvr, cvy⟩
              go_simp <;> (first | done | omega | (intro _; omega))
            try simp only [Act.put, List.setIfInBounds_toArray, List.set_cons_zero, List.set_cons_succ]
            refine tk 24 2 (.bool true) hHeld rfl (by kernel_rfl) (by kernel_rfl) (by kernel_rfl) (fun _ _ _ h => h) (Or.inl ⟨by rfl, ?_⟩) ?_
            · rintro w ⟨⟨r0, r1⟩, ⟨y0, y1⟩, cvr, cvy⟩
              go_simp <;> (first | done | omega | (intro _; omega))
            try simp only [Act.put, List.setIfInBounds_toArray, List.set_cons_zero, List.set_cons_succ]
            refine wpAnyH_done (by kernel_rfl) ?_ _
            go_wp2_with fail
            go_ret
            exact ⟨rfl, below_next B1.out (below_next BY.out BB9.out)⟩
      · subst hq2
        go_wp2_with fail
        clear r0 r1
        go_loopw [7, 8, 9, 10] (fun v7 v8 _ _ wr => ∃ k : Nat, k ≤ 6 ∧ v8 = .int .u8 k ∧ ∃ (a' : Option Addr) (c' n' : Nat) (D' : Nat → Int) (P' : Nat → List Int), v7 = .slice a' n' c' ∧ Hid (RdC wr a' D' P' n') ∧ Hid (Mor D P n D' P' n') ∧ Hid (Below W2.heap.size W2 wr)) (fun _ v8 _ _ _ => 6 - (intOf v8).toNat)
        case atStart => exact ⟨0, by omega, rfl, ca, cc, n, D, P, rfl, hide (HRC.out.below B2.out), hide ⟨HRt.out, fun i hi => (HP.out i hi).1, Gro.refl _ _ _⟩, hide (Below.refl _ _)⟩
        case round =>
          obtain ⟨k, hk, rfl, a', c', n', D', P', rfl, HC, HM, BW⟩ := hrel
          have hn40 := HM.out.right.many
          by_cases hlt : k < 6
          · have hlt' : (k : Int) < 6 := by omega
            have HRW := hide (HR1.out.below (below_next B2.out BW.out))
            have R3 : Hid (Reads .u8 (wr.alloc (.cells #[.int .u8 (k : Int)] 5)) a0 zs) := hide (HRW.out.below (below_alloc _ _))
            have O3 : Hid ((wr.alloc (.cells #[.int .u8 (k : Int)] 5)).ownsRow wr.heap.size 5 1 (.slice (some ⟨wr.heap.size, 0, none⟩) 1 1) 1 ([(k : Int)].map (Value.int .u8))) := hide ⟨rfl, .inr ⟨wr.heap.size, 1, #[.int .u8 (k : Int)], rfl, Nat.le_refl _, heap_alloc_new wr _, Nat.le_refl _, by decide, rfl, rfl⟩⟩
            have hs3 : wr.heap.size ≤ (wr.alloc (.cells #[.int .u8 (k : Int)] 5)).heap.size := by simp
            go_wp2_with (first | (at_builtin; refine wpList_append_reads rfl (.tmp 46) (.tmp 47) 22 rfl wr.heap.size 5 i0 .u8 (.slice 5) Tryz.underlying22 ki0 kz0 kz1 kz2 wr.heap.size 1 1 [(k : Int)] rfl O3.out a0 zs.length cap0 zs rfl rfl R3.out hm1 hm2 hs3 ?_; intro av0 ac0 w4 ho4 hk4; have O4 := hide ho4; have K4 := hide hk4; clear ho4 hk4) | fail)
            have k4 : Below wr.heap.size wr w4 := (below_alloc wr (.cells #[.int .u8 (k : Int)] 5)).trans (K4.out.below (B := wr.heap.size) hs3 (fun b hb e => by omega))
            have hlen : 1 + zs.length = ([(k : Int)] ++ zs).length := by simp; omega
            have hu2 : U8 ([(k : Int)] ++ zs) := fun z hz => by
              rcases List.mem_append.1 hz with hz | hz
              · simp at hz; omega
              · exact HU.out z hz
            have R4 : Hid (Reads .u8 w4 av0 ([(k : Int)] ++ zs)) := hide (ownsRow_own O4.out hlen).reads
            have HDg := hide (drawDigestOf_big av0 ac0 ([(k : Int)] ++ zs) w4 R4.out hu2 (by rw [← hlen]; omega))
            have KK4 := hide k4
            clear R4 O4 K4 k4 O3 R3 hu2 HRW hs3
            rw [hlen]
            clear hlen
            refine HDg.out.mono ?_
            rintro e5 w5 ⟨v, ds, rfl, hds, hU, hown, b5⟩
            obtain ⟨av, ac, rfl⟩ := ownsRow_shape hown
            have hac := ownsRow_cap hown
            have O5 := hide (ownsRow_own hown rfl).reads
            have KK5 := hide (below_next KK4.out b5)
            have BW5 := hide (below_next BW.out KK5.out)
            have HC5 := hide (HC.out.below KK5.out)
            have hgt : ¬ (24 : Int) < (ds.length : Int) := by omega
            obtain ⟨pq, t, hres, hpq⟩ := HM.out.put hU
            have HPB := hide (implBytes_ok a' c' n' D' P' av ac ds w5 HC5.out (by omega) HM.out.small (fault_right HM.out.right) O5.out hU hac (by omega) pq t hres)
            obtain ⟨D2, P2, n2⟩ := t
            simp only at HPB hpq
            clear hown hU b5 HDg hres KK4 KK5 O5
            go_wp2_with fail
            refine HPB.out.mono ?_
            rintro e6 w6 ⟨b', d', rfl, hG6, hb6⟩
            have A6 := hide (below_alloc w6 (.cells #[.int .i64 pq, .slice b' n2 d'] 44))
            obtain ⟨p0, p1⟩ := Two.new w6 (.int .i64 pq) (.slice b' n2 d') 44
            have HC6 := hide (hG6.rd.below A6.out)
            have HC7 := hide ((HC5.out.below hb6).below A6.out)
            have BW6 := hide (below_next BW5.out (below_next hb6 A6.out))
            clear hG6 hb6 A6 HC5 BW5 HPB
            rcases hpq with ⟨hp0, hM2⟩ | hp2
            · subst hp0
              have HM2 := hide hM2
              clear hM2
              go_wp2_with fail
              go_roundw
              case rel => exact ⟨k + 1, by omega, by go_num, b', d', n2, D2, P2, rfl, HC6, HM2, BW6⟩
              case measure => simp [intOf]; omega
            · subst hp2
              go_wp2_with fail
              go_roundw
              case rel => exact ⟨k + 1, by omega, by go_num, a', c', n', D', P', rfl, HC7, HM, BW6⟩
              case measure => simp [intOf]; omega
          · have hlt' : ¬ (k : Int) < 6 := by omega
            have BX := hide (below_next B2.out BW.out)
            have HRE := hide (implReadOver_ok va vc ls.length ls a' c' n' D' P' q wr (HRL.out.below BX.out) rfl hl HSL.out HC.out (by omega) HM.out.small hql e ⟨HE.out.lays, fault_right HM.out.right, HE.out.plc, HE.out.look, HE.out.find, HE.out.kind, HE.out.ent⟩)
            have hy := rd_code D' P' n' e
            generalize rdQ D' P' n' e = R at *
            obtain ⟨yq, ys⟩ := R
            simp only at HRE hy
            go_wp2_with fail
            refine HRE.out.mono ?_
            rintro r w8 ⟨ya, yc, rfl, hg8, hb8⟩
            have A8 := hide (below_alloc w8 (.cells #[.int .i64 yq, .slice ya ys.length yc] 29))
            obtain ⟨y0, y1⟩ := Two.new w8 (.int .i64 yq) (.slice ya ys.length yc) 29
            have BB8 := hide (below_next BW.out (below_next hb8 A8.out))
            obtain ⟨r0, r1⟩ := X2.out.below BB8.out
            clear hg8 hb8 A8 HRE
            rcases hy with hy | hy | hy
            all_goals
              subst hy
              go_wp2_with fail
              go_ret
              exact ⟨rfl, below_next B1.out (below_next B2.out BB8.out)⟩

set_option maxRecDepth 100000 in
theorem lifted (os : Os) (started : os.Started) (H : Type) (enc : TypeId × Value → H) :
    ReturnsInHanded {} Tryz.checked os 4 .any (Rows.fnLaterSpec.pre6 enc Tryz.prog Tryz.f4 Rows.fnLaterRow.domain false) (Rows.fnLaterSpec.post enc Tryz.prog Tryz.f4 false true false false) := by
  refine returnsInHanded_of_change (C := Tryz.checked) own started (by kernel_rfl) Tryz.func4
    (ChangeSpec.witness6 (enc := enc) (C := Tryz.checked) false ⟨#[], #[.slice none 0 0], []⟩ 8 (by kernel_rfl) (by kernel_rfl) (by kernel_rfl) (by kernel_rfl)) ?_
  intro W base args ds gs before hval0 hW hcnd _
  have hval : ∀ (j : Nat) t v, Tryz.f4.params[j]? = some t → args[j]? = some v → Value.okWide Tryz.prog W .any base t v := hval0
  have hW' := hW
  obtain ⟨p, q, hA0, hV, rfl, hfz, hnd⟩ := hW
  have hA : DataW.TrodAll enc Tryz.prog W 0 (fun _ => true) true Tryz.f4.params.toList args.toList ds p := hA0
  rw [Tryz.params4] at hA hval
  obtain ⟨v0, vs0, d0, ds0, p0, q0, hargs, rfl, rfl, h0, r0⟩ := trodAll_cons hA
  obtain ⟨rfl, rfl, rfl⟩ := trodAll_nil r0
  obtain rfl : args = #[v0] := by cases args; simp_all
  obtain ⟨rfl, rfl⟩ := trodVars_none hV
  obtain ⟨a0, len0, cap0, rfl⟩ := okWide_slice Tryz.underlying22 (hval 0 22 v0 rfl rfl)
  have k0 := h0
  have lt0 : ∀ x ∈ p0, x.block < W.heap.size := by obtain ⟨m, hm⟩ := k0; exact DataW.trod_lt m _ _ _ hm
  obtain ⟨zs, hlen, hread, hu, hmax⟩ : ∃ zs : List Int, zs.length = len0 ∧ Reads .u8 W a0 zs ∧ U8 zs ∧ zs.length ≤ maxLen := by
    obtain ⟨fuel, hf⟩ := h0
    rcases open_ints Tryz.underlying22 Tryz.underlying5 (by kernel_rfl) hf with ⟨hcs, _⟩ | ⟨x, l, c, zs, hcs, _, hl, hm, hz, _, hcell, hwz⟩
    · simp [Value.cells] at hcs
      obtain ⟨rfl, rfl, rfl⟩ := hcs
      exact ⟨[], rfl, fun h => absurd rfl h, fun z hz => by simp at hz, Nat.zero_le _⟩
    · simp [Value.cells] at hcs
      obtain ⟨rfl, rfl, rfl⟩ := hcs
      exact reads_of_row (by simpa using hz) hl hm hcell hwz
  subst hlen
  clear hA0 hval0
  refine (walk a0 cap0 zs W hread hu hmax).mono fun e W' ⟨he, bel⟩ => ?_
  subst he
  exact ⟨_, rfl, _, _, _, [], _, [], hW', trodAll_mk1 (shut_bool Tryz.underlying4 _), (trodAll_cons_mk (Below.trod laidOut (by kernel_rfl) (of_decide_eq_true (by kernel_rfl)) k0 bel lt0) trodAll_mk0), rfl, bel.frame _, fun h => by cases h⟩

theorem over : Rows.fnLaterRow.holds Tryz.pinned (OpenSpec.ofChange Rows.fnLaterSpec) :=
  OpenClaim.holds_of_wide 4 Tryz.f4 rfl rfl rfl rfl rfl rfl rfl ⟨rfl, rfl, rfl, rfl, rfl⟩ rfl rfl rfl rfl rfl (by kernel_rfl) Tryz.func4 (by kernel_rfl)
    (of_decide_eq_true (by kernel_rfl)) (by unfold Func.isWrapper; first | (rw [if_pos (by decide +kernel)]; kernel_rfl) | (rw [if_neg (by decide +kernel)]; exact ⟨rfl, rfl⟩))
    (fun os started H enc _ => lifted os started H enc)

end Go.Proofs.YtejipahfodhmjaaGreat.fnLater
namespace Go.Proofs.YtejipahfodhmjaaGreat
theorem fnLater_holds : Rows.FnLaterSaid := fnLater.over
#print axioms fnLater_holds
end Go.Proofs.YtejipahfodhmjaaGreat

