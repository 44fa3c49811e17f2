/-
  At every byte slice the law FnWhole returns true: where nothing is away each file is read. No condition.
-/
import Derived.Test.YtejipahfodhmjaaGreatKWhole21
import Derived.ProofKit
import Derived.Deep.CutRange
import Derived.OpenShut
import Derived.ShutString
import Derived.ChangeOld
import Derived.Deep.DrawnRows
import Derived.Deep.RegionHeld3
namespace Go.Proofs.YtejipahfodhmjaaGreat.fnWhole
open Go.ChangeShapes Go.WideShapes Go.ChangeAt Go.RowKit Go.Maps
set_option linter.unusedVariables false
attribute [local go_sem ↓] Go.wp_at_zero Go.wp_at_succ

theorem own : ownKnob Tryz.prog.godebug = none := by kernel_rfl
theorem laidOut : laidOutB Tryz.prog = true := by kernel_rfl
theorem tk {P : Program} {ops : Array Oper} {Q : Exit → Act → World → Prop} {md : Region.Mode} {S : World → Prop} (i d : Nat) (v : Value) {op : Op} {ty : TypeId} {pos : String} {af : Array Edge} {gd : Option (Nat × Bool)} {fuel : Nat} {listed : Array Bool} {a : Act} {w : World} (hS : S w) (hi : ops[i]? = some { dst := some d, op := op, type := ty, pos := pos, after := af, guard := gd })
    (hs : Region.noSelect ops = true) (hf : Region.free md ops listed i = true) (hr : (Region.ready md ops listed).contains i = true) (hQ : ∀ c a w, Q (.panic c) (a.put (some d) v) w → Q (.panic c) a w) (hy : YieldsIf P ops S { dst := some d, op := op, type := ty, pos := pos, after := af, guard := gd } v a)
    (h : wpAnyH P md ops Q S fuel (listed.setIfInBounds i true) (a.put (some d) v) w) : wpAnyH P md ops Q S (fuel + 1) listed a w := wpAnyH_take hi hs hf hr hQ hy hS h

theorem lwBig_no (a : Option Addr) (cap : Nat) (n : Nat) (w : World) (h : n ≤ 1048576) :
    Calls Tryz.prog 7 #[.slice a n cap] w fun e w' => e = .returned (.bool false) ∧ w' = w := by
  have hb : ¬ (1048576 : Int) < (n : Int) := by omega
  go_enter Tryz.func7, Tryz.ntmps7
  go_wp2
  go_ret
  exact ⟨ret_bool (by simp <;> omega), rfl⟩
theorem lwBig_yes (a : Option Addr) (cap : Nat) (n : Nat) (w : World) (h : 1048576 < n) (h2 : n ≤ maxLen) :
    Calls Tryz.prog 7 #[.slice a n cap] w fun e w' => e = .returned (.bool true) ∧ w' = w := by
  have hb : (1048576 : Int) < (n : Int) := by omega
  unfold maxLen at h2
  go_enter Tryz.func7, Tryz.ntmps7
  go_wp2
  go_ret
  exact ⟨ret_bool (by simp <;> omega), rfl⟩
theorem reads (va : Option Addr) (vc : Nat) (ls : List (List En)) (ca : Option Addr) (cc n : Nat) (D : Nat → Int) (P : Nat → List Int) (u : World) (h : RdL u va ls) (hl : ls.length ≤ 1048576) (hs : SmallL ls) (hC : RdC u ca D P n) (hn : n ≤ 1048576) (hP : ∀ i, i < n → U8 (P i) ∧ (P i).length ≤ 1048576) (hz : layersP ls = 0) (hf : fault D P n = 0) (e : En) (he : e ∈ allE ls) (hpl : e.path.length ≤ 1048576) :
    Calls Tryz.prog 9 #[.slice va ls.length vc, .slice ca n cc, .string (str e.path)] u fun r w' => (∃ (q : Int) (a' : Option Addr) (m c' : Nat), r = .returned (.agg #[.int .i64 q, .slice a' m c']) ∧ (q == 8) = awB D n e) ∧ Below u.heap.size u w' := by
  rcases tree_file hz hf he with ⟨hk, hE⟩ | ⟨hk, h9⟩
  · refine (implReadOver_ok va vc ls.length ls ca cc n D P e.path u h rfl hl hs hC hn hP hpl e hE).mono ?_
    rintro r w' ⟨a', c', rfl, -, hb⟩
    exact ⟨⟨_, _, _, _, rfl, awB_file⟩, hb⟩
  · obtain ⟨h4, hR⟩ := layersP_zero.1 hz
    refine (implReadOver_bad va vc ls.length ls ca cc n D P e.path u h rfl hl hs hC hn hP hpl 9 h9 (by decide)).mono ?_
    rintro r w' ⟨a', c', rfl, -, hb⟩
    exact ⟨⟨_, _, _, _, rfl, (awB_dir ((all_fit (rights_fit hR)).fit.ent e he) hk).symm⟩, hb⟩
set_option maxRecDepth 100000 in
set_option maxHeartbeats 25600000 in
theorem walk (a0 : Option Addr) (cap0 : Nat) (zs : List Int) (w : World) (h : Reads .u8 w a0 zs) (hu : U8 zs) (hmax : zs.length ≤ maxLen) :
    Calls Tryz.prog 5 #[.slice a0 zs.length cap0] w fun e w' => e = .returned (.bool true) ∧ Below w.heap.size w w' := by
  have HR := hide h
  have HU := hide hu
  clear h hu
  by_cases hbig : 1048576 < zs.length
  · go_enter Tryz.func5, Tryz.ntmps5
    go_wp2_with fail
    refine (lwBig_yes _ _ _ _ hbig hmax).mono ?_
    rintro e w ⟨rfl, rfl⟩
    go_wp2_with fail
    go_ret
    exact ⟨rfl, Below.refl _ _⟩
  · go_enter Tryz.func5, Tryz.ntmps5
    go_wp2_with fail
    refine (lwBig_no _ _ _ _ (by omega)).mono ?_
    rintro e w ⟨rfl, rfl⟩
    go_wp2_with fail
    refine (drawAwayIn_any a0 cap0 zs _ HR.out HU.out (by omega)).mono ?_
    rintro e w1 ⟨va, vc, ls, ca, cc, n, D, P, rfl, hgl, hrl, hrc, hn41, hsm, hb1⟩
    have HRL := hide hrl
    have HRC := hide hrc
    have B1 := hide hb1
    have HSL := hide hgl.2.1
    have HGd := hide (fun es he => (hgl.2.2 es he).2)
    have HP := hide (show ∀ i, i < n → U8 (P i) ∧ (P i).length ≤ 1048576 from fun i hi => ⟨(hsm i hi).1, by have := (hsm i hi).2; omega⟩)
    have hl5 := hgl.1
    have hl : ls.length ≤ 1048576 := by omega
    have hn : n ≤ 1048576 := by omega
    clear hgl hrl hrc hb1 hsm HR HU hbig hmax
    have HAI := hide (implAwayIn_any va vc ls.length ls ca cc n D P w1 HRL.out rfl hl HSL.out HRC.out hn HP.out)
    have HSA := hide (fun (u : World) (hb : Below w1.heap.size w1 u) => specAwayIn_any va vc ls.length ls ca cc n D P u (HRL.out.below hb) rfl hl HSL.out HGd.out (HRC.out.below hb) hn HP.out)
    have HIW := hide (fun (u : World) (hb : Below w1.heap.size w1 u) => implIsWhole_any va vc ls.length ls ca cc n D P u (HRL.out.below hb) rfl hl HSL.out (HRC.out.below hb) hn HP.out)
    by_cases hz : lacF ls D P n = 0
    · obtain ⟨hz1, hz2⟩ := lac_zero.1 hz
      obtain ⟨h4, hRs⟩ := layersP_zero.1 hz1
      have HPI := hide (fun (u : World) (hb : Below w1.heap.size w1 u) => implPathsOver_any va vc ls.length ls u (HRL.out.below hb) rfl hl HSL.out)
      have HPS := hide (fun (u : World) (hb : Below w1.heap.size w1 u) => specPathsOver_any va vc ls.length ls u (HRL.out.below hb) rfl hl HSL.out HGd.out)
      have HRO := hide (fun (u : World) (hb : Below w1.heap.size w1 u) (e : En) (he : e ∈ allE ls) => reads va vc ls ca cc n D P u (HRL.out.below hb) hl HSL.out (HRC.out.below hb) hn HP.out hz1 hz2 e he (all_path_len hRs HSL.out h4 e he))
      have hAl : (allE ls).length ≤ 48 := by
        have h1 := all_len hRs ls.length (Nat.le_refl _)
        rw [List.take_length] at h1
        omega
      have hWB : wholeB ls D P n = decide ((awayE D n (allE ls)).length = 0) := by unfold wholeB; rw [hz]; simp
      have hAZ : awayI ls D P n = awayE D n (allE ls) := by rw [awayI, if_pos hz]
      rw [hz, hAZ] at HAI HSA
      rw [hWB] at HIW
      have hal : (awayE D n (allE ls)).length ≤ 200 := by
        have hA := all_fit (rights_fit hRs)
        have := awayE_len (D := D) (n := n) (es := allE ls) (fun e he => entFault_chunks (hA.fit.ent e he)) (allE ls).length (Nat.le_refl _)
        rw [List.take_length] at this
        omega
      have HAN := hide (any_away (D := D) (n := n) (T := allE ls))
      rw [pthL, if_pos hz1, hz1] at HPI HPS
      clear hz hz1 hz2 hRs hWB hAZ HRL HRC HSL HGd HP h4
      generalize allE ls = T at *
      obtain ⟨Z, hZ⟩ : ∃ Z, Z = awayE D n T := ⟨_, rfl⟩
      rw [← hZ] at HAI HSA HIW hal HAN
      clear hZ
      obtain ⟨L, hL⟩ : ∃ L, L = Z.length := ⟨_, rfl⟩
      have HL := hide hL
      rw [← hL] at HIW hal HAN
      clear hL
      go_wp2_with fail
      refine HAI.out.mono ?_
      rintro e w2 ⟨al, ac, rfl, hg2, hb2⟩
      rw [← HL.out]
      have A2 := hide (below_alloc w2 (.cells #[.int .i64 0, .slice al L ac] 33))
      have X2 := hide (Two.new w2 (.int .i64 0) (.slice al L ac) 33)
      have B2 := hide (below_next hb2 A2.out)
      have R2 := hide ((ownInts_reads hg2.1 rfl).below A2.out)
      clear hg2 hb2 A2 HAI
      obtain ⟨x0, x1⟩ := X2.out
      go_wp2_with fail
      clear x0 x1
      generalize w2.alloc (.cells #[.int .i64 0, .slice al L ac] 33) = W2 at *
      obtain ⟨ab, hab⟩ : ∃ ab, ab = w2.heap.size := ⟨_, rfl⟩
      rw [← hab] at X2 ⊢
      clear hab
      refine (HPI.out _ B2.out).mono ?_
      rintro e w3 ⟨pa, pc, rfl, hN3, hb3⟩
      obtain ⟨M, hM⟩ : ∃ M, M = (T.map En.path).length := ⟨_, rfl⟩
      have hMT : M = T.length := by rw [hM, List.length_map]
      rw [← hM]
      have HM := hide hM
      have HMT := hide hMT
      have A3 := hide (below_alloc w3 (.cells #[.int .i64 0, .slice pa M pc] 52))
      have Y3 := hide (Two.new w3 (.int .i64 0) (.slice pa M pc) 52)
      have BB3 := hide (below_next hb3 A3.out)
      have N3 := hide (hN3.reads.below A3.out)
      have B3 := hide (below_next B2.out BB3.out)
      have X3 := hide (X2.out.below BB3.out)
      have R3 := hide (R2.out.below BB3.out)
      have hM48 : M ≤ 48 := by omega
      clear hN3 hb3 A3 HPI X2 R2 BB3 hM hMT hAl
      go_wp2_with fail
      generalize w3.alloc (.cells #[.int .i64 0, .slice pa M pc] 52) = W3 at *
      obtain ⟨pb, hpb⟩ : ∃ pb, pb = w3.heap.size := ⟨_, rfl⟩
      rw [← hpb] at Y3 ⊢
      clear hpb
      go_loopw [7, 8, 9] (fun v7 v8 _ wr => ∃ k : Nat, k ≤ M ∧ v8 = .int .i64 k ∧ v7 = .bool ((T.take k).any (awB D n)) ∧ Hid (Below W3.heap.size W3 wr)) (fun _ v8 _ _ => M - (intOf v8).toNat)
      case atStart => exact ⟨0, Nat.zero_le _, rfl, by simp, hide (Below.refl _ _)⟩
      case round =>
        obtain ⟨k, hk, rfl, rfl, BW⟩ := hrel
        obtain ⟨y0, y1⟩ := Y3.out.below BW.out
        by_cases hlt : k < M
        · have hlt' : (k : Int) < (M : Int) := by omega
          have hk0 : (0 : Int) ≤ (k : Int) := by omega
          obtain ⟨e, he⟩ : ∃ e, T[k]? = some e := ⟨T[k]'(by have := HMT.out; omega), List.getElem?_eq_getElem _⟩
          obtain ⟨nb, off, q, hpa, hnb, hq, hcq⟩ := (N3.out.below BW.out).at (k := k) (by have := HM.out; omega)
          subst hpa
          have hqe : q = e.path := by
            rw [List.getElem?_map, he] at hq
            simpa using hq.symm
          subst hqe
          have HST := hide (any_take (D := D) (n := n) he)
          have HRD := hide (HRO.out wr (below_next B3.out BW.out) e (List.mem_of_getElem? he))
          generalize (T.take k).any (awB D n) = bk at *
          generalize awB D n e = be at *
          clear he hq
          go_wp2_with fail
          refine HRD.out.mono ?_
          rintro r w5 ⟨⟨qc, a5, m5, c5, rfl, hq8⟩, hb5⟩
          have A5 := hide (below_alloc w5 (.cells #[.int .i64 qc, .slice a5 m5 c5] 29))
          obtain ⟨q0, q1⟩ := Two.new w5 (.int .i64 qc) (.slice a5 m5 c5) 29
          have B5 := hide (below_next BW.out (below_next hb5 A5.out))
          clear hb5 A5 y0 y1 hcq
          cases bk with
          | true =>
            go_wp2_with fail
            go_roundw
            case rel => exact ⟨k + 1, by omega, by go_num, by rw [HST.out]; rfl, B5⟩
            case measure => simp [intOf]; omega
          | false =>
            go_wp2_with fail
            go_roundw
            case rel => exact ⟨k + 1, by omega, by go_num, by rw [HST.out, ← hq8]; simp, B5⟩
            case measure => simp [intOf]; omega
        · have hlt' : ¬ (k : Int) < (M : Int) := by omega
          have hkT : T.take k = T := List.take_of_length_le (by have := HMT.out; omega)
          rw [hkT, HAN.out]
          have BW1 := hide (below_next B3.out BW.out)
          have KB : Hid (∀ u : World, Below wr.heap.size wr u → (u.cell? ⟨ab, 0, none⟩ = some (.int .i64 0) ∧ u.cell? ⟨ab, 1, none⟩ = some (.slice al L ac)) ∧ u.cell? ⟨pb, 0, none⟩ = some (.int .i64 0) ∧ u.cell? ⟨pb, 1, none⟩ = some (.slice pa M pc)) := hide (fun u hb => ⟨(X3.out.below BW.out).below hb, (Y3.out.below BW.out).below hb⟩)
          have BD := hide ((Below.refl wr.heap.size wr).drew)
          have R4 := hide (R3.out.below BW.out)
          have hbM : ((M : Int) == (M : Int)) = true := by simp
          clear hkT HRO
          by_cases hL0 : L = 0
          · have hd0 : decide (L = 0) = true := by simp [hL0]
            rw [hd0] at HIW
            have hd1 : decide (0 < L) = false := by simp [hL0]
            rw [hd1]
            have hb0 : ((L : Int) == 0) = true := by simp [hL0]
            have hg0 : ¬ (0 : Int) < (L : Int) := by omega
            clear hd0 hd1 hL0
            obtain ⟨⟨x0, x1⟩, y0', y1'⟩ := KB.out wr (Below.refl _ _)
            clear y0 y1
            go_upto_region 14 with fail
            clear x0 x1 y0' y1'
            refine wp_region_held_drew (S := fun u => (u.cell? ⟨ab, 0, none⟩ = some (.int .i64 0) ∧ u.cell? ⟨ab, 1, none⟩ = some (.slice al L ac)) ∧ u.cell? ⟨pb, 0, none⟩ = some (.int .i64 0) ∧ u.cell? ⟨pb, 1, none⟩ = some (.slice pa M pc)) (by kernel_rfl) (KB.out _ BD.out) (fun hHeld => ?_)
            change wpAnyH _ _ _ _ _ _ (Array.replicate _ false) _ _
            refine tk 0 59 (.slice va ls.length vc) hHeld rfl (by kernel_rfl) (by kernel_rfl) (by kernel_rfl) (fun _ _ _ h => h) (Or.inl ⟨by rfl, ?_⟩) ?_
            · rintro w ⟨⟨x0, x1⟩, y0, y1⟩
              go_simp <;> (first | done | omega | (intro _; omega))
            try simp only [Act.put, List.setIfInBounds_toArray, List.set_cons_zero, List.set_cons_succ]
            refine tk 1 60 (.slice ca n cc) hHeld rfl (by kernel_rfl) (by kernel_rfl) (by kernel_rfl) (fun _ _ _ h => h) (Or.inl ⟨by rfl, ?_⟩) ?_
            · rintro w ⟨⟨x0, x1⟩, y0, y1⟩
              go_simp <;> (first | done | omega | (intro _; omega))
            try simp only [Act.put, List.setIfInBounds_toArray, List.set_cons_zero, List.set_cons_succ]
            refine tk 3 62 (.pointer (some ⟨ab, 1, none⟩)) hHeld rfl (by kernel_rfl) (by kernel_rfl) (by kernel_rfl) (fun _ _ _ h => h) (Or.inl ⟨by rfl, ?_⟩) ?_
            · rintro w ⟨⟨x0, x1⟩, y0, y1⟩
              go_simp <;> (first | done | omega | (intro _; omega))
            try simp only [Act.put, List.setIfInBounds_toArray, List.set_cons_zero, List.set_cons_succ]
            refine tk 4 63 (.slice al L ac) hHeld rfl (by kernel_rfl) (by kernel_rfl) (by kernel_rfl) (fun _ _ _ h => h) (Or.inl ⟨by rfl, ?_⟩) ?_
            · rintro w ⟨⟨x0, x1⟩, y0, y1⟩
              go_simp <;> (first | done | omega | (intro _; omega))
            try simp only [Act.put, List.setIfInBounds_toArray, List.set_cons_zero, List.set_cons_succ]
            refine tk 5 64 (.int .i64 (L : Int)) hHeld rfl (by kernel_rfl) (by kernel_rfl) (by kernel_rfl) (fun _ _ _ h => h) (Or.inl ⟨by rfl, ?_⟩) ?_
            · rintro w ⟨⟨x0, x1⟩, y0, y1⟩
              go_simp <;> (first | done | omega | (intro _; omega))
            try simp only [Act.put, List.setIfInBounds_toArray, List.set_cons_zero, List.set_cons_succ]
            refine tk 6 65 (.bool true) hHeld rfl (by kernel_rfl) (by kernel_rfl) (by kernel_rfl) (fun _ _ _ h => h) (Or.inl ⟨by rfl, ?_⟩) ?_
            · rintro w ⟨⟨x0, x1⟩, y0, y1⟩
              go_simp <;> (first | done | omega | (intro _; omega))
            try simp only [Act.put, List.setIfInBounds_toArray, List.set_cons_zero, List.set_cons_succ]
            refine wpAnyH_ready (rs := [2]) (by kernel_rfl) (by simp) ?_
            refine AllReadyH.cons rfl (fun K hK => ?_) AllReadyH.nil
            go_simp
            refine (HIW.out _ (below_next BW1.out BD.out)).mono ?_
            rintro e w8 ⟨rfl, hb8⟩
            have BB8 := hide (BD.out.trans hb8)
            clear hb8
            go_wp2_with fail
            refine hK.out _ _ (KB.out _ BB8.out) (fun hHeld => ?_)
            clear hK K
            try simp only [Act.put, List.setIfInBounds_toArray, List.set_cons_zero, List.set_cons_succ]
            refine tk 7 66 (.bool true) hHeld rfl (by kernel_rfl) (by kernel_rfl) (by kernel_rfl) (fun _ _ _ h => h) (Or.inl ⟨by rfl, ?_⟩) ?_
            · rintro w ⟨⟨x0, x1⟩, y0, y1⟩
              go_simp <;> (first | done | omega | (intro _; omega))
            try simp only [Act.put, List.setIfInBounds_toArray, List.set_cons_zero, List.set_cons_succ]
            refine tk 8 67 (.bool true) hHeld rfl (by kernel_rfl) (by kernel_rfl) (by kernel_rfl) (fun _ _ _ h => h) (Or.inl ⟨by rfl, ?_⟩) ?_
            · rintro w ⟨⟨x0, x1⟩, y0, y1⟩
              go_simp <;> (first | done | omega | (intro _; omega))
            try simp only [Act.put, List.setIfInBounds_toArray, List.set_cons_zero, List.set_cons_succ]
            refine tk 9 68 (.bool false) hHeld rfl (by kernel_rfl) (by kernel_rfl) (by kernel_rfl) (fun _ _ _ h => h) (Or.inl ⟨by rfl, ?_⟩) ?_
            · rintro w ⟨⟨x0, x1⟩, y0, y1⟩
              go_simp <;> (first | done | omega | (intro _; omega))
            try simp only [Act.put, List.setIfInBounds_toArray, List.set_cons_zero, List.set_cons_succ]
            refine tk 10 69 (.pointer (some ⟨ab, 1, none⟩)) hHeld rfl (by kernel_rfl) (by kernel_rfl) (by kernel_rfl) (fun _ _ _ h => h) (Or.inl ⟨by rfl, ?_⟩) ?_
            · rintro w ⟨⟨x0, x1⟩, y0, y1⟩
              go_simp <;> (first | done | omega | (intro _; omega))
            try simp only [Act.put, List.setIfInBounds_toArray, List.set_cons_zero, List.set_cons_succ]
            refine tk 11 70 (.slice al L ac) hHeld rfl (by kernel_rfl) (by kernel_rfl) (by kernel_rfl) (fun _ _ _ h => h) (Or.inl ⟨by rfl, ?_⟩) ?_
            · rintro w ⟨⟨x0, x1⟩, y0, y1⟩
              go_simp <;> (first | done | omega | (intro _; omega))
            try simp only [Act.put, List.setIfInBounds_toArray, List.set_cons_zero, List.set_cons_succ]
            refine tk 12 71 (.int .i64 (L : Int)) hHeld rfl (by kernel_rfl) (by kernel_rfl) (by kernel_rfl) (fun _ _ _ h => h) (Or.inl ⟨by rfl, ?_⟩) ?_
            · rintro w ⟨⟨x0, x1⟩, y0, y1⟩
              go_simp <;> (first | done | omega | (intro _; omega))
            try simp only [Act.put, List.setIfInBounds_toArray, List.set_cons_zero, List.set_cons_succ]
            refine tk 13 72 (.bool false) hHeld rfl (by kernel_rfl) (by kernel_rfl) (by kernel_rfl) (fun _ _ _ h => h) (Or.inl ⟨by rfl, ?_⟩) ?_
            · rintro w ⟨⟨x0, x1⟩, y0, y1⟩
              go_simp <;> (first | done | omega | (intro _; omega))
            try simp only [Act.put, List.setIfInBounds_toArray, List.set_cons_zero, List.set_cons_succ]
            refine tk 14 73 (.bool true) hHeld rfl (by kernel_rfl) (by kernel_rfl) (by kernel_rfl) (fun _ _ _ h => h) (Or.inl ⟨by rfl, ?_⟩) ?_
            · rintro w ⟨⟨x0, x1⟩, y0, y1⟩
              go_simp <;> (first | done | omega | (intro _; omega))
            try simp only [Act.put, List.setIfInBounds_toArray, List.set_cons_zero, List.set_cons_succ]
            refine tk 15 74 (.bool true) hHeld rfl (by kernel_rfl) (by kernel_rfl) (by kernel_rfl) (fun _ _ _ h => h) (Or.inl ⟨by rfl, ?_⟩) ?_
            · rintro w ⟨⟨x0, x1⟩, y0, y1⟩
              go_simp <;> (first | done | omega | (intro _; omega))
            try simp only [Act.put, List.setIfInBounds_toArray, List.set_cons_zero, List.set_cons_succ]
            refine tk 16 75 (.bool true) hHeld rfl (by kernel_rfl) (by kernel_rfl) (by kernel_rfl) (fun _ _ _ h => h) (Or.inl ⟨by rfl, ?_⟩) ?_
            · rintro w ⟨⟨x0, x1⟩, y0, y1⟩
              go_simp <;> (first | done | omega | (intro _; omega))
            try simp only [Act.put, List.setIfInBounds_toArray, List.set_cons_zero, List.set_cons_succ]
            refine tk 17 76 (.pointer (some ⟨ab, 1, none⟩)) hHeld rfl (by kernel_rfl) (by kernel_rfl) (by kernel_rfl) (fun _ _ _ h => h) (Or.inl ⟨by rfl, ?_⟩) ?_
            · rintro w ⟨⟨x0, x1⟩, y0, y1⟩
              go_simp <;> (first | done | omega | (intro _; omega))
            try simp only [Act.put, List.setIfInBounds_toArray, List.set_cons_zero, List.set_cons_succ]
            refine tk 18 77 (.slice al L ac) hHeld rfl (by kernel_rfl) (by kernel_rfl) (by kernel_rfl) (fun _ _ _ h => h) (Or.inl ⟨by rfl, ?_⟩) ?_
            · rintro w ⟨⟨x0, x1⟩, y0, y1⟩
              go_simp <;> (first | done | omega | (intro _; omega))
            try simp only [Act.put, List.setIfInBounds_toArray, List.set_cons_zero, List.set_cons_succ]
            refine tk 19 78 (.slice va ls.length vc) hHeld rfl (by kernel_rfl) (by kernel_rfl) (by kernel_rfl) (fun _ _ _ h => h) (Or.inl ⟨by rfl, ?_⟩) ?_
            · rintro w ⟨⟨x0, x1⟩, y0, y1⟩
              go_simp <;> (first | done | omega | (intro _; omega))
            try simp only [Act.put, List.setIfInBounds_toArray, List.set_cons_zero, List.set_cons_succ]
            refine tk 20 79 (.slice ca n cc) hHeld rfl (by kernel_rfl) (by kernel_rfl) (by kernel_rfl) (fun _ _ _ h => h) (Or.inl ⟨by rfl, ?_⟩) ?_
            · rintro w ⟨⟨x0, x1⟩, y0, y1⟩
              go_simp <;> (first | done | omega | (intro _; omega))
            try simp only [Act.put, List.setIfInBounds_toArray, List.set_cons_zero, List.set_cons_succ]
            refine wpAnyH_ready (rs := [21]) (by kernel_rfl) (by simp) ?_
            refine AllReadyH.cons rfl (fun K hK => ?_) AllReadyH.nil
            go_simp
            refine (HSA.out _ (below_next BW1.out BB8.out)).mono ?_
            rintro e w9 ⟨sa, sc, rfl, hg9, hb9⟩
            rw [← HL.out]
            have BB9 := hide (below_next BB8.out hb9)
            have R9 := hide (ownInts_reads hg9.1 rfl)
            have HLW := hide (lwNums_same al sa ac sc Z w9 (R4.out.below BB9.out) R9.out (by have := HL.out; omega))
            rw [← HL.out] at HLW
            clear hg9 hb9
            go_wp2_with fail
            refine hK.out _ _ (KB.out _ BB9.out) (fun hHeld => ?_)
            clear hK K
            try simp only [Act.put, List.setIfInBounds_toArray, List.set_cons_zero, List.set_cons_succ]
            refine tk 22 81 (.slice sa L sc) hHeld rfl (by kernel_rfl) (by kernel_rfl) (by kernel_rfl) (fun _ _ _ h => h) (Or.inl ⟨by rfl, ?_⟩) ?_
            · rintro w ⟨⟨x0, x1⟩, y0, y1⟩
              kernel_rfl
            try simp only [Act.put, List.setIfInBounds_toArray, List.set_cons_zero, List.set_cons_succ]
            refine wpAnyH_ready (rs := [23]) (by kernel_rfl) (by simp) ?_
            refine AllReadyH.cons rfl (fun K hK => ?_) AllReadyH.nil
            go_simp
            refine (HLW.out).mono ?_
            rintro e w10 ⟨rfl, hb10⟩
            have BB10 := hide (below_next BB9.out hb10)
            clear hb10
            go_wp2_with fail
            refine hK.out _ _ (KB.out _ BB10.out) (fun hHeld => ?_)
            clear hK K
            try simp only [Act.put, List.setIfInBounds_toArray, List.set_cons_zero, List.set_cons_succ]
            refine tk 24 83 (.bool true) hHeld rfl (by kernel_rfl) (by kernel_rfl) (by kernel_rfl) (fun _ _ _ h => h) (Or.inl ⟨by rfl, ?_⟩) ?_
            · rintro w ⟨⟨x0, x1⟩, y0, y1⟩
              go_simp <;> (first | done | omega | (intro _; omega))
            try simp only [Act.put, List.setIfInBounds_toArray, List.set_cons_zero, List.set_cons_succ]
            refine tk 25 84 (.bool true) hHeld rfl (by kernel_rfl) (by kernel_rfl) (by kernel_rfl) (fun _ _ _ h => h) (Or.inl ⟨by rfl, ?_⟩) ?_
            · rintro w ⟨⟨x0, x1⟩, y0, y1⟩
              go_simp <;> (first | done | omega | (intro _; omega))
            try simp only [Act.put, List.setIfInBounds_toArray, List.set_cons_zero, List.set_cons_succ]
            refine tk 26 85 (.pointer (some ⟨pb, 1, none⟩)) hHeld rfl (by kernel_rfl) (by kernel_rfl) (by kernel_rfl) (fun _ _ _ h => h) (Or.inl ⟨by rfl, ?_⟩) ?_
            · rintro w ⟨⟨x0, x1⟩, y0, y1⟩
              go_simp <;> (first | done | omega | (intro _; omega))
            try simp only [Act.put, List.setIfInBounds_toArray, List.set_cons_zero, List.set_cons_succ]
            refine tk 27 86 (.slice pa M pc) hHeld rfl (by kernel_rfl) (by kernel_rfl) (by kernel_rfl) (fun _ _ _ h => h) (Or.inl ⟨by rfl, ?_⟩) ?_
            · rintro w ⟨⟨x0, x1⟩, y0, y1⟩
              go_simp <;> (first | done | omega | (intro _; omega))
            try simp only [Act.put, List.setIfInBounds_toArray, List.set_cons_zero, List.set_cons_succ]
            refine tk 28 87 (.int .i64 (M : Int)) hHeld rfl (by kernel_rfl) (by kernel_rfl) (by kernel_rfl) (fun _ _ _ h => h) (Or.inl ⟨by rfl, ?_⟩) ?_
            · rintro w ⟨⟨x0, x1⟩, y0, y1⟩
              go_simp <;> (first | done | omega | (intro _; omega))
            try simp only [Act.put, List.setIfInBounds_toArray, List.set_cons_zero, List.set_cons_succ]
            refine tk 29 88 (.slice va ls.length vc) hHeld rfl (by kernel_rfl) (by kernel_rfl) (by kernel_rfl) (fun _ _ _ h => h) (Or.inl ⟨by rfl, ?_⟩) ?_
            · rintro w ⟨⟨x0, x1⟩, y0, y1⟩
              go_simp <;> (first | done | omega | (intro _; omega))
            try simp only [Act.put, List.setIfInBounds_toArray, List.set_cons_zero, List.set_cons_succ]
            refine wpAnyH_ready (rs := [30]) (by kernel_rfl) (by simp) ?_
            refine AllReadyH.cons rfl (fun K hK => ?_) AllReadyH.nil
            go_simp
            refine (HPS.out _ (below_next BW1.out BB10.out)).mono ?_
            rintro e w11 ⟨na, nc, rfl, hN11, hb11⟩
            rw [← HM.out]
            have BB11 := hide (below_next BB10.out hb11)
            clear hN11 hb11
            go_wp2_with fail
            refine hK.out _ _ (KB.out _ BB11.out) (fun hHeld => ?_)
            clear hK K
            try simp only [Act.put, List.setIfInBounds_toArray, List.set_cons_zero, List.set_cons_succ]
            refine tk 31 90 (.slice na M nc) hHeld rfl (by kernel_rfl) (by kernel_rfl) (by kernel_rfl) (fun _ _ _ h => h) (Or.inl ⟨by rfl, ?_⟩) ?_
            · rintro w ⟨⟨x0, x1⟩, y0, y1⟩
              kernel_rfl
            try simp only [Act.put, List.setIfInBounds_toArray, List.set_cons_zero, List.set_cons_succ]
            refine tk 32 91 (.int .i64 (M : Int)) hHeld rfl (by kernel_rfl) (by kernel_rfl) (by kernel_rfl) (fun _ _ _ h => h) (Or.inl ⟨by rfl, ?_⟩) ?_
            · rintro w ⟨⟨x0, x1⟩, y0, y1⟩
              go_simp <;> (first | done | omega | (intro _; omega))
            try simp only [Act.put, List.setIfInBounds_toArray, List.set_cons_zero, List.set_cons_succ]
            refine tk 33 92 (.bool true) hHeld rfl (by kernel_rfl) (by kernel_rfl) (by kernel_rfl) (fun _ _ _ h => h) (Or.inl ⟨by rfl, ?_⟩) ?_
            · rintro w ⟨⟨x0, x1⟩, y0, y1⟩
              go_simp <;> (first | done | omega | (intro _; omega))
            try simp only [Act.put, List.setIfInBounds_toArray, List.set_cons_zero, List.set_cons_succ]
            refine tk 34 93 (.bool true) hHeld rfl (by kernel_rfl) (by kernel_rfl) (by kernel_rfl) (fun _ _ _ h => h) (Or.inl ⟨by rfl, ?_⟩) ?_
            · rintro w ⟨⟨x0, x1⟩, y0, y1⟩
              go_simp <;> (first | done | omega | (intro _; omega))
            try simp only [Act.put, List.setIfInBounds_toArray, List.set_cons_zero, List.set_cons_succ]
            refine tk 35 2 (.bool true) hHeld rfl (by kernel_rfl) (by kernel_rfl) (by kernel_rfl) (fun _ _ _ h => h) (Or.inl ⟨by rfl, ?_⟩) ?_
            · rintro w ⟨⟨x0, x1⟩, y0, y1⟩
              go_simp <;> (first | done | omega | (intro _; omega))
            try simp only [Act.put, List.setIfInBounds_toArray, List.set_cons_zero, List.set_cons_succ]
            refine wpAnyH_done (by kernel_rfl) ?_ _
            go_wp2_with fail
            go_ret
            exact ⟨rfl, below_next B1.out (below_next BW1.out BB11.out)⟩
          · have hd0 : decide (L = 0) = false := by simp [hL0]
            rw [hd0] at HIW
            have hd1 : decide (0 < L) = true := by simp; omega
            rw [hd1]
            have hb0 : ((L : Int) == 0) = false := by rw [beq_eq_false_iff_ne]; omega
            have hg0 : (0 : Int) < (L : Int) := by omega
            clear hd0 hd1 hL0
            obtain ⟨⟨x0, x1⟩, y0', y1'⟩ := KB.out wr (Below.refl _ _)
            clear y0 y1
            go_upto_region 14 with fail
            clear x0 x1 y0' y1'
            refine wp_region_held_drew (S := fun u => (u.cell? ⟨ab, 0, none⟩ = some (.int .i64 0) ∧ u.cell? ⟨ab, 1, none⟩ = some (.slice al L ac)) ∧ u.cell? ⟨pb, 0, none⟩ = some (.int .i64 0) ∧ u.cell? ⟨pb, 1, none⟩ = some (.slice pa M pc)) (by kernel_rfl) (KB.out _ BD.out) (fun hHeld => ?_)
            change wpAnyH _ _ _ _ _ _ (Array.replicate _ false) _ _
            refine tk 0 59 (.slice va ls.length vc) hHeld rfl (by kernel_rfl) (by kernel_rfl) (by kernel_rfl) (fun _ _ _ h => h) (Or.inl ⟨by rfl, ?_⟩) ?_
            · rintro w ⟨⟨x0, x1⟩, y0, y1⟩
              go_simp <;> (first | done | omega | (intro _; omega))
            try simp only [Act.put, List.setIfInBounds_toArray, List.set_cons_zero, List.set_cons_succ]
            refine tk 1 60 (.slice ca n cc) hHeld rfl (by kernel_rfl) (by kernel_rfl) (by kernel_rfl) (fun _ _ _ h => h) (Or.inl ⟨by rfl, ?_⟩) ?_
            · rintro w ⟨⟨x0, x1⟩, y0, y1⟩
              go_simp <;> (first | done | omega | (intro _; omega))
            try simp only [Act.put, List.setIfInBounds_toArray, List.set_cons_zero, List.set_cons_succ]
            refine tk 3 62 (.pointer (some ⟨ab, 1, none⟩)) hHeld rfl (by kernel_rfl) (by kernel_rfl) (by kernel_rfl) (fun _ _ _ h => h) (Or.inl ⟨by rfl, ?_⟩) ?_
            · rintro w ⟨⟨x0, x1⟩, y0, y1⟩
              go_simp <;> (first | done | omega | (intro _; omega))
            try simp only [Act.put, List.setIfInBounds_toArray, List.set_cons_zero, List.set_cons_succ]
            refine tk 4 63 (.slice al L ac) hHeld rfl (by kernel_rfl) (by kernel_rfl) (by kernel_rfl) (fun _ _ _ h => h) (Or.inl ⟨by rfl, ?_⟩) ?_
            · rintro w ⟨⟨x0, x1⟩, y0, y1⟩
              go_simp <;> (first | done | omega | (intro _; omega))
            try simp only [Act.put, List.setIfInBounds_toArray, List.set_cons_zero, List.set_cons_succ]
            refine tk 5 64 (.int .i64 (L : Int)) hHeld rfl (by kernel_rfl) (by kernel_rfl) (by kernel_rfl) (fun _ _ _ h => h) (Or.inl ⟨by rfl, ?_⟩) ?_
            · rintro w ⟨⟨x0, x1⟩, y0, y1⟩
              go_simp <;> (first | done | omega | (intro _; omega))
            try simp only [Act.put, List.setIfInBounds_toArray, List.set_cons_zero, List.set_cons_succ]
            refine tk 6 65 (.bool false) hHeld rfl (by kernel_rfl) (by kernel_rfl) (by kernel_rfl) (fun _ _ _ h => h) (Or.inl ⟨by rfl, ?_⟩) ?_
            · rintro w ⟨⟨x0, x1⟩, y0, y1⟩
              go_simp <;> (first | done | omega | (intro _; omega))
            try simp only [Act.put, List.setIfInBounds_toArray, List.set_cons_zero, List.set_cons_succ]
            refine wpAnyH_ready (rs := [2]) (by kernel_rfl) (by simp) ?_
            refine AllReadyH.cons rfl (fun K hK => ?_) AllReadyH.nil
            go_simp
            refine (HIW.out _ (below_next BW1.out BD.out)).mono ?_
            rintro e w8 ⟨rfl, hb8⟩
            have BB8 := hide (BD.out.trans hb8)
            clear hb8
            go_wp2_with fail
            refine hK.out _ _ (KB.out _ BB8.out) (fun hHeld => ?_)
            clear hK K
            try simp only [Act.put, List.setIfInBounds_toArray, List.set_cons_zero, List.set_cons_succ]
            refine tk 7 66 (.bool true) hHeld rfl (by kernel_rfl) (by kernel_rfl) (by kernel_rfl) (fun _ _ _ h => h) (Or.inl ⟨by rfl, ?_⟩) ?_
            · rintro w ⟨⟨x0, x1⟩, y0, y1⟩
              go_simp <;> (first | done | omega | (intro _; omega))
            try simp only [Act.put, List.setIfInBounds_toArray, List.set_cons_zero, List.set_cons_succ]
            refine tk 8 67 (.bool true) hHeld rfl (by kernel_rfl) (by kernel_rfl) (by kernel_rfl) (fun _ _ _ h => h) (Or.inl ⟨by rfl, ?_⟩) ?_
            · rintro w ⟨⟨x0, x1⟩, y0, y1⟩
              go_simp <;> (first | done | omega | (intro _; omega))
            try simp only [Act.put, List.setIfInBounds_toArray, List.set_cons_zero, List.set_cons_succ]
            refine tk 9 68 (.bool true) hHeld rfl (by kernel_rfl) (by kernel_rfl) (by kernel_rfl) (fun _ _ _ h => h) (Or.inl ⟨by rfl, ?_⟩) ?_
            · rintro w ⟨⟨x0, x1⟩, y0, y1⟩
              go_simp <;> (first | done | omega | (intro _; omega))
            try simp only [Act.put, List.setIfInBounds_toArray, List.set_cons_zero, List.set_cons_succ]
            refine tk 10 69 (.pointer (some ⟨ab, 1, none⟩)) hHeld rfl (by kernel_rfl) (by kernel_rfl) (by kernel_rfl) (fun _ _ _ h => h) (Or.inl ⟨by rfl, ?_⟩) ?_
            · rintro w ⟨⟨x0, x1⟩, y0, y1⟩
              go_simp <;> (first | done | omega | (intro _; omega))
            try simp only [Act.put, List.setIfInBounds_toArray, List.set_cons_zero, List.set_cons_succ]
            refine tk 11 70 (.slice al L ac) hHeld rfl (by kernel_rfl) (by kernel_rfl) (by kernel_rfl) (fun _ _ _ h => h) (Or.inl ⟨by rfl, ?_⟩) ?_
            · rintro w ⟨⟨x0, x1⟩, y0, y1⟩
              go_simp <;> (first | done | omega | (intro _; omega))
            try simp only [Act.put, List.setIfInBounds_toArray, List.set_cons_zero, List.set_cons_succ]
            refine tk 12 71 (.int .i64 (L : Int)) hHeld rfl (by kernel_rfl) (by kernel_rfl) (by kernel_rfl) (fun _ _ _ h => h) (Or.inl ⟨by rfl, ?_⟩) ?_
            · rintro w ⟨⟨x0, x1⟩, y0, y1⟩
              go_simp <;> (first | done | omega | (intro _; omega))
            try simp only [Act.put, List.setIfInBounds_toArray, List.set_cons_zero, List.set_cons_succ]
            refine tk 13 72 (.bool true) hHeld rfl (by kernel_rfl) (by kernel_rfl) (by kernel_rfl) (fun _ _ _ h => h) (Or.inl ⟨by rfl, ?_⟩) ?_
            · rintro w ⟨⟨x0, x1⟩, y0, y1⟩
              go_simp <;> (first | done | omega | (intro _; omega))
            try simp only [Act.put, List.setIfInBounds_toArray, List.set_cons_zero, List.set_cons_succ]
            refine tk 14 73 (.bool true) hHeld rfl (by kernel_rfl) (by kernel_rfl) (by kernel_rfl) (fun _ _ _ h => h) (Or.inl ⟨by rfl, ?_⟩) ?_
            · rintro w ⟨⟨x0, x1⟩, y0, y1⟩
              go_simp <;> (first | done | omega | (intro _; omega))
            try simp only [Act.put, List.setIfInBounds_toArray, List.set_cons_zero, List.set_cons_succ]
            refine tk 15 74 (.bool true) hHeld rfl (by kernel_rfl) (by kernel_rfl) (by kernel_rfl) (fun _ _ _ h => h) (Or.inl ⟨by rfl, ?_⟩) ?_
            · rintro w ⟨⟨x0, x1⟩, y0, y1⟩
              go_simp <;> (first | done | omega | (intro _; omega))
            try simp only [Act.put, List.setIfInBounds_toArray, List.set_cons_zero, List.set_cons_succ]
            refine tk 16 75 (.bool true) hHeld rfl (by kernel_rfl) (by kernel_rfl) (by kernel_rfl) (fun _ _ _ h => h) (Or.inl ⟨by rfl, ?_⟩) ?_
            · rintro w ⟨⟨x0, x1⟩, y0, y1⟩
              go_simp <;> (first | done | omega | (intro _; omega))
            try simp only [Act.put, List.setIfInBounds_toArray, List.set_cons_zero, List.set_cons_succ]
            refine tk 17 76 (.pointer (some ⟨ab, 1, none⟩)) hHeld rfl (by kernel_rfl) (by kernel_rfl) (by kernel_rfl) (fun _ _ _ h => h) (Or.inl ⟨by rfl, ?_⟩) ?_
            · rintro w ⟨⟨x0, x1⟩, y0, y1⟩
              go_simp <;> (first | done | omega | (intro _; omega))
            try simp only [Act.put, List.setIfInBounds_toArray, List.set_cons_zero, List.set_cons_succ]
            refine tk 18 77 (.slice al L ac) hHeld rfl (by kernel_rfl) (by kernel_rfl) (by kernel_rfl) (fun _ _ _ h => h) (Or.inl ⟨by rfl, ?_⟩) ?_
            · rintro w ⟨⟨x0, x1⟩, y0, y1⟩
              go_simp <;> (first | done | omega | (intro _; omega))
            try simp only [Act.put, List.setIfInBounds_toArray, List.set_cons_zero, List.set_cons_succ]
            refine tk 19 78 (.slice va ls.length vc) hHeld rfl (by kernel_rfl) (by kernel_rfl) (by kernel_rfl) (fun _ _ _ h => h) (Or.inl ⟨by rfl, ?_⟩) ?_
            · rintro w ⟨⟨x0, x1⟩, y0, y1⟩
              go_simp <;> (first | done | omega | (intro _; omega))
            try simp only [Act.put, List.setIfInBounds_toArray, List.set_cons_zero, List.set_cons_succ]
            refine tk 20 79 (.slice ca n cc) hHeld rfl (by kernel_rfl) (by kernel_rfl) (by kernel_rfl) (fun _ _ _ h => h) (Or.inl ⟨by rfl, ?_⟩) ?_
            · rintro w ⟨⟨x0, x1⟩, y0, y1⟩
              go_simp <;> (first | done | omega | (intro _; omega))
            try simp only [Act.put, List.setIfInBounds_toArray, List.set_cons_zero, List.set_cons_succ]
            refine wpAnyH_ready (rs := [21]) (by kernel_rfl) (by simp) ?_
            refine AllReadyH.cons rfl (fun K hK => ?_) AllReadyH.nil
            go_simp
            refine (HSA.out _ (below_next BW1.out BB8.out)).mono ?_
            rintro e w9 ⟨sa, sc, rfl, hg9, hb9⟩
            rw [← HL.out]
            have BB9 := hide (below_next BB8.out hb9)
            have R9 := hide (ownInts_reads hg9.1 rfl)
            have HLW := hide (lwNums_same al sa ac sc Z w9 (R4.out.below BB9.out) R9.out (by have := HL.out; omega))
            rw [← HL.out] at HLW
            clear hg9 hb9
            go_wp2_with fail
            refine hK.out _ _ (KB.out _ BB9.out) (fun hHeld => ?_)
            clear hK K
            try simp only [Act.put, List.setIfInBounds_toArray, List.set_cons_zero, List.set_cons_succ]
            refine tk 22 81 (.slice sa L sc) hHeld rfl (by kernel_rfl) (by kernel_rfl) (by kernel_rfl) (fun _ _ _ h => h) (Or.inl ⟨by rfl, ?_⟩) ?_
            · rintro w ⟨⟨x0, x1⟩, y0, y1⟩
              kernel_rfl
            try simp only [Act.put, List.setIfInBounds_toArray, List.set_cons_zero, List.set_cons_succ]
            refine wpAnyH_ready (rs := [23]) (by kernel_rfl) (by simp) ?_
            refine AllReadyH.cons rfl (fun K hK => ?_) AllReadyH.nil
            go_simp
            refine (HLW.out).mono ?_
            rintro e w10 ⟨rfl, hb10⟩
            have BB10 := hide (below_next BB9.out hb10)
            clear hb10
            go_wp2_with fail
            refine hK.out _ _ (KB.out _ BB10.out) (fun hHeld => ?_)
            clear hK K
            try simp only [Act.put, List.setIfInBounds_toArray, List.set_cons_zero, List.set_cons_succ]
            refine tk 24 83 (.bool true) hHeld rfl (by kernel_rfl) (by kernel_rfl) (by kernel_rfl) (fun _ _ _ h => h) (Or.inl ⟨by rfl, ?_⟩) ?_
            · rintro w ⟨⟨x0, x1⟩, y0, y1⟩
              go_simp <;> (first | done | omega | (intro _; omega))
            try simp only [Act.put, List.setIfInBounds_toArray, List.set_cons_zero, List.set_cons_succ]
            refine tk 25 84 (.bool true) hHeld rfl (by kernel_rfl) (by kernel_rfl) (by kernel_rfl) (fun _ _ _ h => h) (Or.inl ⟨by rfl, ?_⟩) ?_
            · rintro w ⟨⟨x0, x1⟩, y0, y1⟩
              go_simp <;> (first | done | omega | (intro _; omega))
            try simp only [Act.put, List.setIfInBounds_toArray, List.set_cons_zero, List.set_cons_succ]
            refine tk 26 85 (.pointer (some ⟨pb, 1, none⟩)) hHeld rfl (by kernel_rfl) (by kernel_rfl) (by kernel_rfl) (fun _ _ _ h => h) (Or.inl ⟨by rfl, ?_⟩) ?_
            · rintro w ⟨⟨x0, x1⟩, y0, y1⟩
              go_simp <;> (first | done | omega | (intro _; omega))
            try simp only [Act.put, List.setIfInBounds_toArray, List.set_cons_zero, List.set_cons_succ]
            refine tk 27 86 (.slice pa M pc) hHeld rfl (by kernel_rfl) (by kernel_rfl) (by kernel_rfl) (fun _ _ _ h => h) (Or.inl ⟨by rfl, ?_⟩) ?_
            · rintro w ⟨⟨x0, x1⟩, y0, y1⟩
              go_simp <;> (first | done | omega | (intro _; omega))
            try simp only [Act.put, List.setIfInBounds_toArray, List.set_cons_zero, List.set_cons_succ]
            refine tk 28 87 (.int .i64 (M : Int)) hHeld rfl (by kernel_rfl) (by kernel_rfl) (by kernel_rfl) (fun _ _ _ h => h) (Or.inl ⟨by rfl, ?_⟩) ?_
            · rintro w ⟨⟨x0, x1⟩, y0, y1⟩
              go_simp <;> (first | done | omega | (intro _; omega))
            try simp only [Act.put, List.setIfInBounds_toArray, List.set_cons_zero, List.set_cons_succ]
            refine tk 29 88 (.slice va ls.length vc) hHeld rfl (by kernel_rfl) (by kernel_rfl) (by kernel_rfl) (fun _ _ _ h => h) (Or.inl ⟨by rfl, ?_⟩) ?_
            · rintro w ⟨⟨x0, x1⟩, y0, y1⟩
              go_simp <;> (first | done | omega | (intro _; omega))
            try simp only [Act.put, List.setIfInBounds_toArray, List.set_cons_zero, List.set_cons_succ]
            refine wpAnyH_ready (rs := [30]) (by kernel_rfl) (by simp) ?_
            refine AllReadyH.cons rfl (fun K hK => ?_) AllReadyH.nil
            go_simp
            refine (HPS.out _ (below_next BW1.out BB10.out)).mono ?_
            rintro e w11 ⟨na, nc, rfl, hN11, hb11⟩
            rw [← HM.out]
            have BB11 := hide (below_next BB10.out hb11)
            clear hN11 hb11
            go_wp2_with fail
            refine hK.out _ _ (KB.out _ BB11.out) (fun hHeld => ?_)
            clear hK K
            try simp only [Act.put, List.setIfInBounds_toArray, List.set_cons_zero, List.set_cons_succ]
            refine tk 31 90 (.slice na M nc) hHeld rfl (by kernel_rfl) (by kernel_rfl) (by kernel_rfl) (fun _ _ _ h => h) (Or.inl ⟨by rfl, ?_⟩) ?_
            · rintro w ⟨⟨x0, x1⟩, y0, y1⟩
              kernel_rfl
            try simp only [Act.put, List.setIfInBounds_toArray, List.set_cons_zero, List.set_cons_succ]
            refine tk 32 91 (.int .i64 (M : Int)) hHeld rfl (by kernel_rfl) (by kernel_rfl) (by kernel_rfl) (fun _ _ _ h => h) (Or.inl ⟨by rfl, ?_⟩) ?_
            · rintro w ⟨⟨x0, x1⟩, y0, y1⟩
              go_simp <;> (first | done | omega | (intro _; omega))
            try simp only [Act.put, List.setIfInBounds_toArray, List.set_cons_zero, List.set_cons_succ]
            refine tk 33 92 (.bool true) hHeld rfl (by kernel_rfl) (by kernel_rfl) (by kernel_rfl) (fun _ _ _ h => h) (Or.inl ⟨by rfl, ?_⟩) ?_
            · rintro w ⟨⟨x0, x1⟩, y0, y1⟩
              go_simp <;> (first | done | omega | (intro _; omega))
            try simp only [Act.put, List.setIfInBounds_toArray, List.set_cons_zero, List.set_cons_succ]
            refine tk 34 93 (.bool true) hHeld rfl (by kernel_rfl) (by kernel_rfl) (by kernel_rfl) (fun _ _ _ h => h) (Or.inl ⟨by rfl, ?_⟩) ?_
            · rintro w ⟨⟨x0, x1⟩, y0, y1⟩
              go_simp <;> (first | done | omega | (intro _; omega))
            try simp only [Act.put, List.setIfInBounds_toArray, List.set_cons_zero, List.set_cons_succ]
            refine tk 35 2 (.bool true) hHeld rfl (by kernel_rfl) (by kernel_rfl) (by kernel_rfl) (fun _ _ _ h => h) (Or.inl ⟨by rfl, ?_⟩) ?_
            · rintro w ⟨⟨x0, x1⟩, y0, y1⟩
              go_simp <;> (first | done | omega | (intro _; omega))
            try simp only [Act.put, List.setIfInBounds_toArray, List.set_cons_zero, List.set_cons_succ]
            refine wpAnyH_done (by kernel_rfl) ?_ _
            go_wp2_with fail
            go_ret
            exact ⟨rfl, below_next B1.out (below_next BW1.out BB11.out)⟩
    · have hAZ : awayI ls D P n = [] := by rw [awayI, if_neg hz]
      have hWB : wholeB ls D P n = false := by unfold wholeB; simp [hz]
      rw [hAZ] at HAI HSA
      rw [hWB] at HIW
      generalize lacF ls D P n = F at *
      have hne : (F != 0) = true := by simpa using hz
      have hbF : (F == F) = true := by simp
      clear hz hAZ hWB HRL HRC HSL HGd HP
      go_wp2_with fail
      refine HAI.out.mono ?_
      rintro e w2 ⟨al, ac, rfl, hg2, hb2⟩
      have A2 := hide (below_alloc w2 (.cells #[.int .i64 F, .slice al 0 ac] 33))
      have X2 := hide (Two.new w2 (.int .i64 F) (.slice al 0 ac) 33)
      have B2 := hide (below_next hb2 A2.out)
      clear hg2 hb2 A2 HAI
      obtain ⟨x0, x1⟩ := X2.out
      go_upto_region 6 with fail
      clear x0 x1
      generalize w2.alloc (.cells #[.int .i64 F, .slice al 0 ac] 33) = W2 at *
      obtain ⟨ab, hab⟩ : ∃ ab, ab = w2.heap.size := ⟨_, rfl⟩
      rw [← hab] at X2 ⊢
      clear hab
      have KB : Hid (∀ u : World, Below W2.heap.size W2 u → u.cell? ⟨ab, 0, none⟩ = some (.int .i64 F)) := hide (fun u hb => (X2.out.below hb).1)
      have BD := hide ((Below.refl W2.heap.size W2).drew)
      refine wp_region_held_drew (S := fun u => u.cell? ⟨ab, 0, none⟩ = some (.int .i64 F)) (by kernel_rfl) (KB.out _ BD.out) (fun hHeld => ?_)
      change wpAnyH _ _ _ _ _ _ (Array.replicate _ false) _ _
      refine tk 0 23 (.slice va ls.length vc) hHeld rfl (by kernel_rfl) (by kernel_rfl) (by kernel_rfl) (fun _ _ _ h => h) (Or.inl ⟨by rfl, ?_⟩) ?_
      · rintro w x0
        go_simp <;> (first | done | omega | (intro _; omega))
      try simp only [Act.put, List.setIfInBounds_toArray, List.set_cons_zero, List.set_cons_succ]
      refine tk 1 24 (.slice ca n cc) hHeld rfl (by kernel_rfl) (by kernel_rfl) (by kernel_rfl) (fun _ _ _ h => h) (Or.inl ⟨by rfl, ?_⟩) ?_
      · rintro w x0
        go_simp <;> (first | done | omega | (intro _; omega))
      try simp only [Act.put, List.setIfInBounds_toArray, List.set_cons_zero, List.set_cons_succ]
      refine tk 4 27 (.pointer (some ⟨ab, 0, none⟩)) hHeld rfl (by kernel_rfl) (by kernel_rfl) (by kernel_rfl) (fun _ _ _ h => h) (Or.inl ⟨by rfl, ?_⟩) ?_
      · rintro w x0
        go_simp <;> (first | done | omega | (intro _; omega))
      try simp only [Act.put, List.setIfInBounds_toArray, List.set_cons_zero, List.set_cons_succ]
      refine tk 5 28 (.int .i64 F) hHeld rfl (by kernel_rfl) (by kernel_rfl) (by kernel_rfl) (fun _ _ _ h => h) (Or.inl ⟨by rfl, ?_⟩) ?_
      · rintro w x0
        go_simp <;> (first | done | omega | (intro _; omega))
      try simp only [Act.put, List.setIfInBounds_toArray, List.set_cons_zero, List.set_cons_succ]
      refine wpAnyH_ready (rs := [2]) (by kernel_rfl) (by simp) ?_
      refine AllReadyH.cons rfl (fun K hK => ?_) AllReadyH.nil
      go_simp
      refine (HSA.out _ (below_next B2.out BD.out)).mono ?_
      rintro e w8 ⟨sa, sc, rfl, hg8, hb8⟩
      have BB8 := hide (BD.out.trans hb8)
      clear hg8 hb8
      go_wp2_with fail
      refine hK.out _ _ (KB.out _ BB8.out) (fun hHeld => ?_)
      clear hK K
      try simp only [Act.put, List.setIfInBounds_toArray, List.set_cons_zero, List.set_cons_succ]
      refine tk 3 26 (.int .i64 F) hHeld rfl (by kernel_rfl) (by kernel_rfl) (by kernel_rfl) (fun _ _ _ h => h) (Or.inl ⟨by rfl, ?_⟩) ?_
      · rintro w x0
        kernel_rfl
      try simp only [Act.put, List.setIfInBounds_toArray, List.set_cons_zero, List.set_cons_succ]
      refine tk 6 29 (.bool true) hHeld rfl (by kernel_rfl) (by kernel_rfl) (by kernel_rfl) (fun _ _ _ h => h) (Or.inl ⟨by rfl, ?_⟩) ?_
      · rintro w x0
        go_simp <;> (first | done | omega | (intro _; omega))
      try simp only [Act.put, List.setIfInBounds_toArray, List.set_cons_zero, List.set_cons_succ]
      refine tk 7 30 (.bool true) hHeld rfl (by kernel_rfl) (by kernel_rfl) (by kernel_rfl) (fun _ _ _ h => h) (Or.inl ⟨by rfl, ?_⟩) ?_
      · rintro w x0
        go_simp <;> (first | done | omega | (intro _; omega))
      try simp only [Act.put, List.setIfInBounds_toArray, List.set_cons_zero, List.set_cons_succ]
      refine tk 8 31 (.slice va ls.length vc) hHeld rfl (by kernel_rfl) (by kernel_rfl) (by kernel_rfl) (fun _ _ _ h => h) (Or.inl ⟨by rfl, ?_⟩) ?_
      · rintro w x0
        go_simp <;> (first | done | omega | (intro _; omega))
      try simp only [Act.put, List.setIfInBounds_toArray, List.set_cons_zero, List.set_cons_succ]
      refine tk 9 32 (.slice ca n cc) hHeld rfl (by kernel_rfl) (by kernel_rfl) (by kernel_rfl) (fun _ _ _ h => h) (Or.inl ⟨by rfl, ?_⟩) ?_
      · rintro w x0
        go_simp <;> (first | done | omega | (intro _; omega))
      try simp only [Act.put, List.setIfInBounds_toArray, List.set_cons_zero, List.set_cons_succ]
      refine wpAnyH_ready (rs := [10]) (by kernel_rfl) (by simp) ?_
      refine AllReadyH.cons rfl (fun K hK => ?_) AllReadyH.nil
      go_simp
      refine (HIW.out _ (below_next B2.out BB8.out)).mono ?_
      rintro e w9 ⟨rfl, hb9⟩
      have BB9 := hide (below_next BB8.out hb9)
      clear hb9
      go_wp2_with fail
      refine hK.out _ _ (KB.out _ BB9.out) (fun hHeld => ?_)
      clear hK K
      try simp only [Act.put, List.setIfInBounds_toArray, List.set_cons_zero, List.set_cons_succ]
      refine tk 11 34 (.bool true) hHeld rfl (by kernel_rfl) (by kernel_rfl) (by kernel_rfl) (fun _ _ _ h => h) (Or.inl ⟨by rfl, ?_⟩) ?_
      · rintro w x0
        go_simp <;> (first | done | omega | (intro _; omega))
      try simp only [Act.put, List.setIfInBounds_toArray, List.set_cons_zero, List.set_cons_succ]
      refine tk 12 35 (.bool true) hHeld rfl (by kernel_rfl) (by kernel_rfl) (by kernel_rfl) (fun _ _ _ h => h) (Or.inl ⟨by rfl, ?_⟩) ?_
      · rintro w x0
        go_simp <;> (first | done | omega | (intro _; omega))
      try simp only [Act.put, List.setIfInBounds_toArray, List.set_cons_zero, List.set_cons_succ]
      refine tk 13 2 (.bool true) hHeld rfl (by kernel_rfl) (by kernel_rfl) (by kernel_rfl) (fun _ _ _ h => h) (Or.inl ⟨by rfl, ?_⟩) ?_
      · rintro w x0
        go_simp <;> (first | done | omega | (intro _; omega))
      try simp only [Act.put, List.setIfInBounds_toArray, List.set_cons_zero, List.set_cons_succ]
      refine wpAnyH_done (by kernel_rfl) ?_ _
      go_wp2_with fail
      go_ret
      exact ⟨rfl, below_next B1.out (below_next B2.out BB9.out)⟩

set_option maxRecDepth 100000 in
theorem lifted (os : Os) (started : os.Started) (H : Type) (enc : TypeId × Value → H) :
    ReturnsInHanded {} Tryz.checked os 5 .any (Rows.fnWholeSpec.pre6 enc Tryz.prog Tryz.f5 Rows.fnWholeRow.domain false) (Rows.fnWholeSpec.post enc Tryz.prog Tryz.f5 false true false false) := by
  refine returnsInHanded_of_change (C := Tryz.checked) own started (by kernel_rfl) Tryz.func5
    (ChangeSpec.witness6 (enc := enc) (C := Tryz.checked) false ⟨#[], #[.slice none 0 0], []⟩ 8 (by kernel_rfl) (by kernel_rfl) (by kernel_rfl) (by kernel_rfl)) ?_
  intro W base args ds gs before hval0 hW hcnd _
  have hval : ∀ (j : Nat) t v, Tryz.f5.params[j]? = some t → args[j]? = some v → Value.okWide Tryz.prog W .any base t v := hval0
  have hW' := hW
  obtain ⟨p, q, hA0, hV, rfl, hfz, hnd⟩ := hW
  have hA : DataW.TrodAll enc Tryz.prog W 0 (fun _ => true) true Tryz.f5.params.toList args.toList ds p := hA0
  rw [Tryz.params5] at hA hval
  obtain ⟨v0, vs0, d0, ds0, p0, q0, hargs, rfl, rfl, h0, r0⟩ := trodAll_cons hA
  obtain ⟨rfl, rfl, rfl⟩ := trodAll_nil r0
  obtain rfl : args = #[v0] := by cases args; simp_all
  obtain ⟨rfl, rfl⟩ := trodVars_none hV
  obtain ⟨a0, len0, cap0, rfl⟩ := okWide_slice Tryz.underlying22 (hval 0 22 v0 rfl rfl)
  have k0 := h0
  have lt0 : ∀ x ∈ p0, x.block < W.heap.size := by obtain ⟨m, hm⟩ := k0; exact DataW.trod_lt m _ _ _ hm
  obtain ⟨zs, hlen, hread, hu, hmax⟩ : ∃ zs : List Int, zs.length = len0 ∧ Reads .u8 W a0 zs ∧ U8 zs ∧ zs.length ≤ maxLen := by
    obtain ⟨fuel, hf⟩ := h0
    rcases open_ints Tryz.underlying22 Tryz.underlying5 (by kernel_rfl) hf with ⟨hcs, _⟩ | ⟨x, l, c, zs, hcs, _, hl, hm, hz, _, hcell, hwz⟩
    · simp [Value.cells] at hcs
      obtain ⟨rfl, rfl, rfl⟩ := hcs
      exact ⟨[], rfl, fun h => absurd rfl h, fun z hz => by simp at hz, Nat.zero_le _⟩
    · simp [Value.cells] at hcs
      obtain ⟨rfl, rfl, rfl⟩ := hcs
      exact reads_of_row (by simpa using hz) hl hm hcell hwz
  subst hlen
  clear hA0 hval0
  refine (walk a0 cap0 zs W hread hu hmax).mono fun e W' ⟨he, bel⟩ => ?_
  subst he
  exact ⟨_, rfl, _, _, _, [], _, [], hW', trodAll_mk1 (shut_bool Tryz.underlying4 _), (trodAll_cons_mk (Below.trod laidOut (by kernel_rfl) (of_decide_eq_true (by kernel_rfl)) k0 bel lt0) trodAll_mk0), rfl, bel.frame _, fun h => by cases h⟩

theorem over : Rows.fnWholeRow.holds Tryz.pinned (OpenSpec.ofChange Rows.fnWholeSpec) :=
  OpenClaim.holds_of_wide 5 Tryz.f5 rfl rfl rfl rfl rfl rfl rfl ⟨rfl, rfl, rfl, rfl, rfl⟩ rfl rfl rfl rfl rfl (by kernel_rfl) Tryz.func5 (by kernel_rfl)
    (of_decide_eq_true (by kernel_rfl)) (by unfold Func.isWrapper; first | (rw [if_pos (by decide +kernel)]; kernel_rfl) | (rw [if_neg (by decide +kernel)]; exact ⟨rfl, rfl⟩))
    (fun os started H enc _ => lifted os started H enc)

end Go.Proofs.YtejipahfodhmjaaGreat.fnWhole
namespace Go.Proofs.YtejipahfodhmjaaGreat
theorem fnWhole_holds : Rows.FnWholeSaid := fnWhole.over
#print axioms fnWhole_holds
end Go.Proofs.YtejipahfodhmjaaGreat

