/-
  Texts put together: LogM LogV LogN LogO LogY.
-/
import Derived.Test.YtpikgmbjgfdcfaaKLogs2
namespace Go.Proofs.Ytpikgmbjgfdcfaa
open Go.RowKit
set_option linter.unusedVariables false

theorem tk {P : Program} {ops : Array Oper} {Q : Exit → Act → World → Prop} {md : Region.Mode} {S : World → Prop} (i d : Nat) (v : Value) {op : Op} {ty : TypeId} {pos : String} {af : Array Edge} {gd : Option (Nat × Bool)} {fuel : Nat} {listed : Array Bool} {a : Act} {w : World} (hS : S w) (hi : ops[i]? = some { dst := some d, op := op, type := ty, pos := pos, after := af, guard := gd })
    (hs : Region.noSelect ops = true) (hf : Region.free md ops listed i = true) (hr : (Region.ready md ops listed).contains i = true) (hQ : ∀ c a w, Q (.panic c) (a.put (some d) v) w → Q (.panic c) a w) (hy : YieldsIf P ops S { dst := some d, op := op, type := ty, pos := pos, after := af, guard := gd } v a)
    (h : wpAnyH P md ops Q S fuel (listed.setIfInBounds i true) (a.put (some d) v) w) : wpAnyH P md ops Q S (fuel + 1) listed a w := wpAnyH_take hi hs hf hr hQ hy hS h
def OneM (zs : List Int) (e : Ending) : Prop :=
  (one zs = none ∧ e = .returned (.tuple #[.string ⟨#[]⟩, .int .i64 0])) ∨ (∃ l, one zs = some l ∧ e = .returned (.tuple #[.string (strB l), .int .i64 ((l.length : Int) + 5)]))
theorem one_short {zs : List Int} (h : zs.length < 6) : one zs = none := by
  cases hO : one zs with
  | none => rfl
  | some l =>
    obtain ⟨h1, -, h2, -⟩ := one_some hO
    have := lineF_len h1
    omega
theorem one_head {z : Int} {t : List Int} (h : ¬ (1 ≤ z ∧ z + 4 ≤ t.length)) : one (z :: t) = none := by
  cases hO : one (z :: t) with
  | none => rfl
  | some l =>
    obtain ⟨h1, -, h3, h4⟩ := one_some hO
    have h5 := lineF_len h1
    have e := congrArg (fun q : List Int => q.getD 0 0) h4
    simp only [packZ, headZ, List.cons_append, List.getD_cons_zero] at e
    simp only [List.length_cons] at h3
    omega
set_option maxRecDepth 100000 in
set_option maxHeartbeats 1600000 in
theorem l14One_any (a : Option Addr) (c : Nat) (zs : List Int) (w : World) (h : Reads .u8 w a zs) (hu : U8 zs) (hc : zs.length ≤ c) (hl : zs.length ≤ 1048576) :
    Calls Try.prog 70 #[.slice a zs.length c] w fun e w' => OneM zs e ∧ Below w.heap.size w w' := by
  by_cases h6 : zs.length < 6
  · have hN := hide (one_short h6)
    clear h hu
    go_enter Try.func70, Try.ntmps70
    go_wp2_with fail
    go_ret2
    exact ⟨.inl ⟨hN.out, rfl⟩, Below.refl _ _⟩
  · have hz : zs ≠ [] := fun e => h6 (by simp [e])
    obtain ⟨b, off, rfl, hb, -⟩ := h hz
    obtain ⟨z, t, rfl⟩ : ∃ z t, zs = z :: t := by cases zs with | nil => exact absurd rfl hz | cons z t => exact ⟨z, t, rfl⟩
    have hcell := (dat_drop h).1
    obtain ⟨z0, z1⟩ := hu z (by simp)
    obtain ⟨k, rfl⟩ : ∃ k : Nat, z = k := ⟨z.toNat, by omega⟩
    have hTL : ((k : Int) :: t).length = t.length + 1 := rfl
    by_cases hk1 : 1 ≤ k
    · by_cases hend : k + 4 ≤ t.length
      · have hln : lnOf ((k : Int) :: t) = bys (t.take k) := by simp [lnOf]
        have hlt : (t.take k).length = k := by rw [List.length_take]; omega
        have hlb : (bys (t.take k)).length = k := by rw [bys_len, hlt]
        have hone : one ((k : Int) :: t) = if lineF (bys (t.take k)) = 0 ∧ packZ (bys (t.take k)) = ((k : Int) :: t).take (k + 5) then some (bys (t.take k)) else none := by unfold one; rw [hln, hlb]
        have HCV : Hid (∀ u : World, Below w.heap.size w u → Sem.run Try.prog (convert 22 9 (.slice (some ⟨b, off + 1, none⟩) k (c - 1))) u = .ok (.string (strB (bys (t.take k)))) u) := hide (fun u hu' => by
          have hR1 := reads_part (h.below hu') 1 k (by simp; omega)
          simp only [List.drop_succ_cons, List.drop_zero] at hR1
          have := conv_reads (c := c - 1) hR1
          rwa [hlt, nums_bys] at this)
        have htl : (((k : Int) :: t).take (k + 5)).length = k + 5 := by rw [List.length_take, hTL]; omega
        have HCW : Hid (∀ u : World, Below w.heap.size w u → Sem.run Try.prog (convert 22 9 (.slice (some ⟨b, off, none⟩) (k + 5) c)) u = .ok (.string (strOfNums (((k : Int) :: t).take (k + 5)))) u) := hide (fun u hu' => by
          have hR1 := reads_part (h.below hu') 0 (k + 5) (by rw [hTL]; omega)
          rw [List.drop_zero, Nat.add_zero] at hR1
          have := conv_reads (c := c) hR1
          rwa [htl] at this)
        have htu := u8_take hu (k + 5)
        have hcw := HCV.out w (Below.refl _ _)
        generalize bys (t.take k) = l at *
        generalize ((k : Int) :: t).take (k + 5) = zz at *
        have HO := hide hone
        rw [hTL] at hl hc h6 ⊢
        have HLB := hide hlb
        have hsl : (strB l).size = k := by rw [strB_size]; exact hlb
        have hkc : ((k : Int) + 5 : Int) ≤ (c : Int) := by omega
        have h50 : (0 : Int) ≤ (k : Int) + 5 := by omega
        have htn : ((k : Int) + 5).toNat = k + 5 := by omega
        clear hone h hlt hln hz hTL htl hu hlb
        by_cases h0 : lineF l = 0
        · have HLF : Hid (∀ u : World, Calls Try.prog 56 #[.string (strB l)] u fun e w' => e = .returned (.int .i64 0) ∧ w' = u) := hide fun u => by have := specLineFault_any (strB l) u (by omega); rw [strB_list, h0] at this; exact this
          have h60 := lineF_len h0
          have HPK : Hid (∀ u : World, Calls Try.prog 57 #[.string (strB l)] u fun e w' => ∃ a c, e = .returned (.slice a (packZ l).length c) ∧ GB u.heap.size w'.heap.size w' (.slice a (packZ l).length c) (packZ l) ∧ Below u.heap.size u w') := hide fun u => by have := l14Pack_any (strB l) u (by rw [hsl]; omega) (by rw [hsl]; have := HLB.out; omega); rw [strB_list] at this; exact this
          have hpu := packZ_u8 (l := l) (by omega)
          clear h60
          generalize packZ l = pk at *
          by_cases he : pk = zz
          · have HN : Hid (one ((k : Int) :: t) = some l) := hide (by rw [HO.out]; exact if_pos ⟨h0, he⟩)
            subst he
            clear HO h0 hpu htu
            go_enter Try.func70, Try.ntmps70
            go_wp2_with fail
            have BX := hide ((Below.refl w.heap.size w).drew)
            refine wp_region_held_drew (S := fun u => Sem.run Try.prog (convert 22 9 (.slice (some ⟨b, off, none⟩) (k + 5) c)) u = .ok (.string (strOfNums pk)) u) (by kernel_rfl) (HCW.out _ BX.out) (fun hHeld => ?_)
            change wpAnyH _ _ _ _ _ _ (Array.replicate _ false) _ _
            refine tk 0 27 (.string (strB l)) hHeld rfl (by kernel_rfl) (by kernel_rfl) (by kernel_rfl) (fun _ _ _ h => h) (Or.inl ⟨by rfl, ?_⟩) ?_
            · rintro w q0
              go_simp <;> (first | done | decide | omega | (intro _; omega))
            try simp only [Act.put, List.setIfInBounds_toArray, List.set_cons_zero, List.set_cons_succ]
            refine wpAnyH_ready (rs := [1]) (by kernel_rfl) (by simp) ?_
            refine AllReadyH.cons rfl (fun K hK => ?_) AllReadyH.nil
            go_simp
            refine (HLF.out _).mono ?_
            rintro e x1 ⟨rfl, hx1⟩
            subst hx1
            go_wp2_with fail
            refine hK.out _ _ (HCW.out _ BX.out) (fun hHeld => ?_)
            clear hK K
            try simp only [Act.put, List.setIfInBounds_toArray, List.set_cons_zero, List.set_cons_succ]
            refine tk 2 29 (.bool false) hHeld rfl (by kernel_rfl) (by kernel_rfl) (by kernel_rfl) (fun _ _ _ h => h) (Or.inl ⟨by rfl, ?_⟩) ?_
            · rintro w q0
              go_simp <;> (first | done | decide | omega | (intro _; omega))
            try simp only [Act.put, List.setIfInBounds_toArray, List.set_cons_zero, List.set_cons_succ]
            refine tk 3 30 (.bool false) hHeld rfl (by kernel_rfl) (by kernel_rfl) (by kernel_rfl) (fun _ _ _ h => h) (Or.inl ⟨by rfl, ?_⟩) ?_
            · rintro w q0
              go_simp <;> (first | done | decide | omega | (intro _; omega))
            try simp only [Act.put, List.setIfInBounds_toArray, List.set_cons_zero, List.set_cons_succ]
            refine tk 4 31 (.string (strB l)) hHeld rfl (by kernel_rfl) (by kernel_rfl) (by kernel_rfl) (fun _ _ _ h => h) (Or.inl ⟨by rfl, ?_⟩) ?_
            · rintro w q0
              go_simp <;> (first | done | decide | omega | (intro _; omega))
            try simp only [Act.put, List.setIfInBounds_toArray, List.set_cons_zero, List.set_cons_succ]
            refine tk 7 34 (.slice (some ⟨b, off, none⟩) (t.length + 1) c) hHeld rfl (by kernel_rfl) (by kernel_rfl) (by kernel_rfl) (fun _ _ _ h => h) (Or.inl ⟨by rfl, ?_⟩) ?_
            · rintro w q0
              go_simp <;> (first | done | decide | omega | (intro _; omega))
            try simp only [Act.put, List.setIfInBounds_toArray, List.set_cons_zero, List.set_cons_succ]
            refine tk 8 35 (.int .i64 ((k : Int) + 5)) hHeld rfl (by kernel_rfl) (by kernel_rfl) (by kernel_rfl) (fun _ _ _ h => h) (Or.inl ⟨by rfl, ?_⟩) ?_
            · rintro w q0
              go_simp <;> (first | done | decide | omega | (intro _; omega))
            try simp only [Act.put, List.setIfInBounds_toArray, List.set_cons_zero, List.set_cons_succ]
            refine tk 9 36 (.slice (some ⟨b, off, none⟩) (k + 5) c) hHeld rfl (by kernel_rfl) (by kernel_rfl) (by kernel_rfl) (fun _ _ _ h => h) (Or.inl ⟨by rfl, ?_⟩) ?_
            · rintro w q0
              go_simp <;> (first | done | decide | omega | (intro _; omega))
            try simp only [Act.put, List.setIfInBounds_toArray, List.set_cons_zero, List.set_cons_succ]
            refine tk 10 37 (.string (strOfNums pk)) hHeld rfl (by kernel_rfl) (by kernel_rfl) (by kernel_rfl) (fun _ _ _ h => h) (Or.inl ⟨by rfl, ?_⟩) ?_
            · rintro w q0
              go_simp <;> (first | done | decide | omega | (intro _; omega))
            try simp only [Act.put, List.setIfInBounds_toArray, List.set_cons_zero, List.set_cons_succ]
            refine wpAnyH_ready (rs := [5]) (by kernel_rfl) (by simp) ?_
            refine AllReadyH.cons rfl (fun K hK => ?_) AllReadyH.nil
            go_simp
            refine (HPK.out _).mono ?_
            rintro e x2 ⟨pa, pc, rfl, hg2, hx2⟩
            have BXn := hide (below_next BX.out hx2)
            have hcp := conv_reads (c := pc) hg2.own.reads
            clear hg2 hx2 BX
            have BX := BXn
            clear BXn
            go_wp2_with fail
            refine hK.out _ _ (HCW.out _ BX.out) (fun hHeld => ?_)
            clear hK K
            try simp only [Act.put, List.setIfInBounds_toArray, List.set_cons_zero, List.set_cons_succ]
            refine wpAnyH_ready (rs := [6]) (by kernel_rfl) (by simp) ?_
            refine AllReadyH.cons rfl (fun K hK => ?_) AllReadyH.nil
            go_simp
            refine hK.out _ _ (HCW.out _ BX.out) (fun hHeld => ?_)
            clear hK K
            try simp only [Act.put, List.setIfInBounds_toArray, List.set_cons_zero, List.set_cons_succ]
            refine tk 11 38 (.bool false) hHeld rfl (by kernel_rfl) (by kernel_rfl) (by kernel_rfl) (fun _ _ _ h => h) (Or.inl ⟨by rfl, ?_⟩) ?_
            · rintro w q0
              go_simp <;> (first | done | decide | omega | (intro _; omega))
            try simp only [Act.put, List.setIfInBounds_toArray, List.set_cons_zero, List.set_cons_succ]
            refine tk 12 39 (.bool false) hHeld rfl (by kernel_rfl) (by kernel_rfl) (by kernel_rfl) (fun _ _ _ h => h) (Or.inl ⟨by rfl, ?_⟩) ?_
            · rintro w q0
              go_simp <;> (first | done | decide | omega | (intro _; omega))
            try simp only [Act.put, List.setIfInBounds_toArray, List.set_cons_zero, List.set_cons_succ]
            refine wpAnyH_done (by kernel_rfl) ?_ _
            go_wp2_with fail
            go_ret2
            exact ⟨.inr ⟨l, HN.out, by rw [HLB.out]; rfl⟩, BX.out⟩
          · have HN : Hid (one ((k : Int) :: t) = none) := hide (by rw [HO.out]; exact if_neg fun e => he e.2)
            have hne : ((strOfNums pk).toList == (strOfNums zz).toList) = false := by
              rw [beq_eq_false_iff_ne]
              intro e
              exact he (nums_inj hpu htu (ByteArray.ext (Array.ext' (by rw [ByteArray.toList_eq, ByteArray.toList_eq] at e; exact e))))
            have hne3 : strOfNums pk ≠ strOfNums zz := fun e => he (nums_inj hpu htu e)
            clear HO h0 hpu htu he
            go_enter Try.func70, Try.ntmps70
            go_wp2_with fail
            have BX := hide ((Below.refl w.heap.size w).drew)
            refine wp_region_held_drew (S := fun u => Sem.run Try.prog (convert 22 9 (.slice (some ⟨b, off, none⟩) (k + 5) c)) u = .ok (.string (strOfNums zz)) u) (by kernel_rfl) (HCW.out _ BX.out) (fun hHeld => ?_)
            change wpAnyH _ _ _ _ _ _ (Array.replicate _ false) _ _
            refine tk 0 27 (.string (strB l)) hHeld rfl (by kernel_rfl) (by kernel_rfl) (by kernel_rfl) (fun _ _ _ h => h) (Or.inl ⟨by rfl, ?_⟩) ?_
            · rintro w q0
              go_simp <;> (first | done | decide | omega | (intro _; omega))
            try simp only [Act.put, List.setIfInBounds_toArray, List.set_cons_zero, List.set_cons_succ]
            refine wpAnyH_ready (rs := [1]) (by kernel_rfl) (by simp) ?_
            refine AllReadyH.cons rfl (fun K hK => ?_) AllReadyH.nil
            go_simp
            refine (HLF.out _).mono ?_
            rintro e x1 ⟨rfl, hx1⟩
            subst hx1
            go_wp2_with fail
            refine hK.out _ _ (HCW.out _ BX.out) (fun hHeld => ?_)
            clear hK K
            try simp only [Act.put, List.setIfInBounds_toArray, List.set_cons_zero, List.set_cons_succ]
            refine tk 2 29 (.bool false) hHeld rfl (by kernel_rfl) (by kernel_rfl) (by kernel_rfl) (fun _ _ _ h => h) (Or.inl ⟨by rfl, ?_⟩) ?_
            · rintro w q0
              go_simp <;> (first | done | decide | omega | (intro _; omega))
            try simp only [Act.put, List.setIfInBounds_toArray, List.set_cons_zero, List.set_cons_succ]
            refine tk 3 30 (.bool false) hHeld rfl (by kernel_rfl) (by kernel_rfl) (by kernel_rfl) (fun _ _ _ h => h) (Or.inl ⟨by rfl, ?_⟩) ?_
            · rintro w q0
              go_simp <;> (first | done | decide | omega | (intro _; omega))
            try simp only [Act.put, List.setIfInBounds_toArray, List.set_cons_zero, List.set_cons_succ]
            refine tk 4 31 (.string (strB l)) hHeld rfl (by kernel_rfl) (by kernel_rfl) (by kernel_rfl) (fun _ _ _ h => h) (Or.inl ⟨by rfl, ?_⟩) ?_
            · rintro w q0
              go_simp <;> (first | done | decide | omega | (intro _; omega))
            try simp only [Act.put, List.setIfInBounds_toArray, List.set_cons_zero, List.set_cons_succ]
            refine tk 7 34 (.slice (some ⟨b, off, none⟩) (t.length + 1) c) hHeld rfl (by kernel_rfl) (by kernel_rfl) (by kernel_rfl) (fun _ _ _ h => h) (Or.inl ⟨by rfl, ?_⟩) ?_
            · rintro w q0
              go_simp <;> (first | done | decide | omega | (intro _; omega))
            try simp only [Act.put, List.setIfInBounds_toArray, List.set_cons_zero, List.set_cons_succ]
            refine tk 8 35 (.int .i64 ((k : Int) + 5)) hHeld rfl (by kernel_rfl) (by kernel_rfl) (by kernel_rfl) (fun _ _ _ h => h) (Or.inl ⟨by rfl, ?_⟩) ?_
            · rintro w q0
              go_simp <;> (first | done | decide | omega | (intro _; omega))
            try simp only [Act.put, List.setIfInBounds_toArray, List.set_cons_zero, List.set_cons_succ]
            refine tk 9 36 (.slice (some ⟨b, off, none⟩) (k + 5) c) hHeld rfl (by kernel_rfl) (by kernel_rfl) (by kernel_rfl) (fun _ _ _ h => h) (Or.inl ⟨by rfl, ?_⟩) ?_
            · rintro w q0
              go_simp <;> (first | done | decide | omega | (intro _; omega))
            try simp only [Act.put, List.setIfInBounds_toArray, List.set_cons_zero, List.set_cons_succ]
            refine tk 10 37 (.string (strOfNums zz)) hHeld rfl (by kernel_rfl) (by kernel_rfl) (by kernel_rfl) (fun _ _ _ h => h) (Or.inl ⟨by rfl, ?_⟩) ?_
            · rintro w q0
              go_simp <;> (first | done | decide | omega | (intro _; omega))
            try simp only [Act.put, List.setIfInBounds_toArray, List.set_cons_zero, List.set_cons_succ]
            refine wpAnyH_ready (rs := [5]) (by kernel_rfl) (by simp) ?_
            refine AllReadyH.cons rfl (fun K hK => ?_) AllReadyH.nil
            go_simp
            refine (HPK.out _).mono ?_
            rintro e x2 ⟨pa, pc, rfl, hg2, hx2⟩
            have BXn := hide (below_next BX.out hx2)
            have hcp := conv_reads (c := pc) hg2.own.reads
            clear hg2 hx2 BX
            have BX := BXn
            clear BXn
            go_wp2_with fail
            refine hK.out _ _ (HCW.out _ BX.out) (fun hHeld => ?_)
            clear hK K
            try simp only [Act.put, List.setIfInBounds_toArray, List.set_cons_zero, List.set_cons_succ]
            refine wpAnyH_ready (rs := [6]) (by kernel_rfl) (by simp) ?_
            refine AllReadyH.cons rfl (fun K hK => ?_) AllReadyH.nil
            go_simp
            refine hK.out _ _ (HCW.out _ BX.out) (fun hHeld => ?_)
            clear hK K
            try simp only [Act.put, List.setIfInBounds_toArray, List.set_cons_zero, List.set_cons_succ]
            refine tk 11 38 (.bool true) hHeld rfl (by kernel_rfl) (by kernel_rfl) (by kernel_rfl) (fun _ _ _ h => h) (Or.inl ⟨by rfl, ?_⟩) ?_
            · rintro w q0
              go_simp <;> (first | done | decide | omega | (intro _; omega))
            try simp only [Act.put, List.setIfInBounds_toArray, List.set_cons_zero, List.set_cons_succ]
            refine tk 12 39 (.bool true) hHeld rfl (by kernel_rfl) (by kernel_rfl) (by kernel_rfl) (fun _ _ _ h => h) (Or.inl ⟨by rfl, ?_⟩) ?_
            · rintro w q0
              go_simp <;> (first | done | decide | omega | (intro _; omega))
            try simp only [Act.put, List.setIfInBounds_toArray, List.set_cons_zero, List.set_cons_succ]
            refine wpAnyH_done (by kernel_rfl) ?_ _
            go_wp2_with fail
            go_ret2
            exact ⟨.inl ⟨HN.out, rfl⟩, BX.out⟩
        · have HN : Hid (one ((k : Int) :: t) = none) := hide (by rw [HO.out]; exact if_neg fun e => h0 e.1)
          have HLF : Hid (∀ u : World, Calls Try.prog 56 #[.string (strB l)] u fun e w' => e = .returned (.int .i64 (lineF l)) ∧ w' = u) := hide fun u => by have := specLineFault_any (strB l) u (by omega); rw [strB_list] at this; exact this
          generalize lineF l = q at *
          have hq0 : ¬ q = 0 := h0
          clear HO htu h0
          go_enter Try.func70, Try.ntmps70
          go_wp2_with fail
          have BX := hide ((Below.refl w.heap.size w).drew)
          refine wp_region_held_drew (S := fun u => Sem.run Try.prog (convert 22 9 (.slice (some ⟨b, off, none⟩) (k + 5) c)) u = .ok (.string (strOfNums zz)) u) (by kernel_rfl) (HCW.out _ BX.out) (fun hHeld => ?_)
          change wpAnyH _ _ _ _ _ _ (Array.replicate _ false) _ _
          refine tk 0 27 (.string (strB l)) hHeld rfl (by kernel_rfl) (by kernel_rfl) (by kernel_rfl) (fun _ _ _ h => h) (Or.inl ⟨by rfl, ?_⟩) ?_
          · rintro w q0
            go_simp <;> (first | done | decide | omega | (intro _; omega))
          try simp only [Act.put, List.setIfInBounds_toArray, List.set_cons_zero, List.set_cons_succ]
          refine wpAnyH_ready (rs := [1]) (by kernel_rfl) (by simp) ?_
          refine AllReadyH.cons rfl (fun K hK => ?_) AllReadyH.nil
          go_simp
          refine (HLF.out _).mono ?_
          rintro e x1 ⟨rfl, hx1⟩
          subst hx1
          go_wp2_with fail
          refine hK.out _ _ (HCW.out _ BX.out) (fun hHeld => ?_)
          clear hK K
          try simp only [Act.put, List.setIfInBounds_toArray, List.set_cons_zero, List.set_cons_succ]
          refine tk 2 29 (.bool true) hHeld rfl (by kernel_rfl) (by kernel_rfl) (by kernel_rfl) (fun _ _ _ h => h) (Or.inl ⟨by rfl, ?_⟩) ?_
          · rintro w q0
            go_simp <;> (first | done | exact hq0)
          try simp only [Act.put, List.setIfInBounds_toArray, List.set_cons_zero, List.set_cons_succ]
          refine tk 3 30 (.bool true) hHeld rfl (by kernel_rfl) (by kernel_rfl) (by kernel_rfl) (fun _ _ _ h => h) (Or.inl ⟨by rfl, ?_⟩) ?_
          · rintro w q0
            go_simp <;> (first | done | decide | omega | (intro _; omega))
          try simp only [Act.put, List.setIfInBounds_toArray, List.set_cons_zero, List.set_cons_succ]
          refine tk 4 31 undef hHeld rfl (by kernel_rfl) (by kernel_rfl) (by kernel_rfl) (fun _ _ _ h => h) (Or.inr ⟨by rfl, rfl⟩) ?_
          try simp only [Act.put, List.setIfInBounds_toArray, List.set_cons_zero, List.set_cons_succ]
          refine tk 5 32 undef hHeld rfl (by kernel_rfl) (by kernel_rfl) (by kernel_rfl) (fun _ _ _ h => h) (Or.inr ⟨by rfl, rfl⟩) ?_
          try simp only [Act.put, List.setIfInBounds_toArray, List.set_cons_zero, List.set_cons_succ]
          refine tk 6 33 undef hHeld rfl (by kernel_rfl) (by kernel_rfl) (by kernel_rfl) (fun _ _ _ h => h) (Or.inr ⟨by rfl, rfl⟩) ?_
          try simp only [Act.put, List.setIfInBounds_toArray, List.set_cons_zero, List.set_cons_succ]
          refine tk 7 34 undef hHeld rfl (by kernel_rfl) (by kernel_rfl) (by kernel_rfl) (fun _ _ _ h => h) (Or.inr ⟨by rfl, rfl⟩) ?_
          try simp only [Act.put, List.setIfInBounds_toArray, List.set_cons_zero, List.set_cons_succ]
          refine tk 8 35 undef hHeld rfl (by kernel_rfl) (by kernel_rfl) (by kernel_rfl) (fun _ _ _ h => h) (Or.inr ⟨by rfl, rfl⟩) ?_
          try simp only [Act.put, List.setIfInBounds_toArray, List.set_cons_zero, List.set_cons_succ]
          refine tk 9 36 undef hHeld rfl (by kernel_rfl) (by kernel_rfl) (by kernel_rfl) (fun _ _ _ h => h) (Or.inr ⟨by rfl, rfl⟩) ?_
          try simp only [Act.put, List.setIfInBounds_toArray, List.set_cons_zero, List.set_cons_succ]
          refine tk 10 37 undef hHeld rfl (by kernel_rfl) (by kernel_rfl) (by kernel_rfl) (fun _ _ _ h => h) (Or.inr ⟨by rfl, rfl⟩) ?_
          try simp only [Act.put, List.setIfInBounds_toArray, List.set_cons_zero, List.set_cons_succ]
          refine tk 11 38 undef hHeld rfl (by kernel_rfl) (by kernel_rfl) (by kernel_rfl) (fun _ _ _ h => h) (Or.inr ⟨by rfl, rfl⟩) ?_
          try simp only [Act.put, List.setIfInBounds_toArray, List.set_cons_zero, List.set_cons_succ]
          refine tk 12 39 (.bool true) hHeld rfl (by kernel_rfl) (by kernel_rfl) (by kernel_rfl) (fun _ _ _ h => h) (Or.inl ⟨by rfl, ?_⟩) ?_
          · rintro w q0
            go_simp <;> (first | done | decide | omega | (intro _; omega))
          try simp only [Act.put, List.setIfInBounds_toArray, List.set_cons_zero, List.set_cons_succ]
          refine wpAnyH_done (by kernel_rfl) ?_ _
          go_wp2_with fail
          go_ret2
          exact ⟨.inl ⟨HN.out, rfl⟩, BX.out⟩
      · have hN := hide (one_head (z := (k : Int)) (t := t) (fun e => by omega))
        rw [hTL] at hl hc h6 ⊢
        clear h hu hTL hz
        have hd : decide ((k : Int) + 5 < 6) = false := decide_eq_false (by omega)
        go_enter Try.func70, Try.ntmps70
        go_wp2_with fail
        go_ret2
        exact ⟨.inl ⟨hN.out, rfl⟩, Below.refl _ _⟩
    · have hN := hide (one_head (z := (k : Int)) (t := t) (fun e => by omega))
      rw [hTL] at hl hc h6 ⊢
      clear h hu hTL hz
      have hd : decide ((k : Int) + 5 < 6) = true := decide_eq_true (by omega)
      go_enter Try.func70, Try.ntmps70
      go_wp2_with fail
      go_ret2
      exact ⟨.inl ⟨hN.out, rfl⟩, Below.refl _ _⟩
end Go.Proofs.Ytpikgmbjgfdcfaa

namespace Go.Proofs.Ytpikgmbjgfdcfaa
open Go.RowKit
set_option linter.unusedVariables false

structure RdL' (w : World) (sa : Option Addr) (sc : Nat) (S : List Int) (la : Option Addr) (lc : Nat) (L : List Int) : Prop where
  sure : Reads .u8 w sa S
  loose : Reads .u8 w la L
  su8 : U8 S
  lu8 : U8 L
  scap : S.length ≤ sc
  lcap : L.length ≤ lc
  slen : S.length ≤ 1048576
  llen : L.length ≤ 1048576
theorem RdL'.below {w w' : World} {sa la : Option Addr} {sc lc : Nat} {S L : List Int} (h : RdL' w sa sc S la lc L) (hb : Below w.heap.size w w') : RdL' w' sa sc S la lc L :=
  ⟨h.sure.below hb, h.loose.below hb, h.su8, h.lu8, h.scap, h.lcap, h.slen, h.llen⟩
def ResG' (q k : Int) (S L : List Int) (w : World) (r : Ending) (w' : World) : Prop :=
  ∃ sa sc la lc M, r = .returned (.agg #[.int .i64 q, .int .i64 k, .slice sa S.length sc, .slice la L.length lc]) ∧ GB w.heap.size M w' (.slice sa S.length sc) S ∧ GB M w'.heap.size w' (.slice la L.length lc) L ∧ w.heap.size ≤ M ∧ M ≤ w'.heap.size ∧ Below w.heap.size w w'
theorem GB.low {B B' T : Nat} {w : World} {v : Value} {ds : List Int} (h : GB B T w v ds) (hB : B' ≤ B) : GB B' T w v ds := ⟨ownsRow_mono h.1 hB, h.2⟩
theorem GB.void (B T : Nat) (w : World) : GB B T w (.slice none 0 0) [] := ⟨World.ownsRow_nil _ _ _ _, fun b hb => by simp [Value.ownBlock] at hb⟩

theorem logF_many {S L : List Int} (h : 2000 < S.length + L.length) : logF S L = 2 := if_neg (by omega)
theorem logF_text {S L : List Int} (h : ¬ 2000 < S.length + L.length) (hw : (wholeZ S && wholeZ L) = false) : logF S L = 5 := by unfold logF; rw [if_pos (by omega), hw]; rfl
theorem logF_fine {S L : List Int} (h : ¬ 2000 < S.length + L.length) (hw : (wholeZ S && wholeZ L) = true) : logF S L = 0 := by unfold logF; rw [if_pos (by omega), hw]; rfl
theorem logF_zero {S L : List Int} (h : logF S L = 0) : S.length + L.length ≤ 2000 ∧ Whole S ∧ Whole L := by
  unfold logF at h
  split at h
  · split at h
    · rename_i h1 h2
      rw [Bool.and_eq_true] at h2
      exact ⟨h1, wholeZ_iff.1 h2.1, wholeZ_iff.1 h2.2⟩
    · cases h
  · cases h

set_option maxRecDepth 100000 in
set_option maxHeartbeats 1600000 in
theorem implLogFault_any (sa la : Option Addr) (sc lc : Nat) (S L : List Int) (w : World) (h : RdL' w sa sc S la lc L) :
    Calls Try.prog 16 #[.agg #[.slice sa S.length sc, .slice la L.length lc]] w fun e w' => e = .returned (.int .i64 (logF S L)) ∧ Below w.heap.size w w' := by
  have A0 := hide (below_alloc w (.cells #[.slice sa S.length sc, .slice la L.length lc] 25))
  have T0 := hide (Two.new w (.slice sa S.length sc) (.slice la L.length lc) 25)
  have HC := hide (fun u => isTooLong_any sa la sc lc S.length L.length u h.slen h.llen)
  have C1 := hide (fun (u : World) (hb : Below w.heap.size w u) => isAllLines_any sa sc S u (h.sure.below hb) h.su8 h.scap h.slen)
  have C2 := hide (fun (u : World) (hb : Below w.heap.size w u) => isAllLines_any la lc L u (h.loose.below hb) h.lu8 h.lcap h.llen)
  by_cases hb : 2000 < S.length + L.length
  · rw [logF_many hb]
    rw [decide_eq_true hb] at HC
    clear h C1 C2 hb
    go_enter Try.func16, Try.ntmps16
    go_wp2_with fail
    refine (HC.out _).mono ?_
    rintro e w1 ⟨rfl, hb1⟩
    have HB := hide (below_next A0.out hb1)
    clear hb1
    go_wp2_with fail
    go_ret
    exact ⟨rfl, HB.out⟩
  · rw [decide_eq_false hb] at HC
    have HF : Hid (logF S L = if (wholeZ S && wholeZ L) = true then 0 else 5) := hide (if_pos (by omega))
    generalize logF S L = F at *
    generalize wholeZ S = x at *
    generalize wholeZ L = y at *
    clear h hb
    cases x
    · have HF' := hide (show F = 5 from HF.out)
      clear HF C2
      go_enter Try.func16, Try.ntmps16
      go_wp2_with fail
      refine (HC.out _).mono ?_
      rintro e w1 ⟨rfl, hb1⟩
      have HB := hide (below_next A0.out hb1)
      obtain ⟨t0, t1⟩ := T0.out.below hb1
      clear hb1
      go_wp2_with fail
      refine (C1.out _ HB.out).mono ?_
      rintro e w2 ⟨rfl, hb2⟩
      have HB2 := hide (below_next HB.out hb2)
      clear hb2
      go_wp2_with fail
      go_ret
      exact ⟨ret_int HF'.out.symm, HB2.out⟩
    · have HF' := hide (show F = if y = true then 0 else 5 from by rw [HF.out, Bool.true_and])
      clear HF
      cases y
      · have HF2 := hide (show F = 5 from HF'.out)
        clear HF'
        go_enter Try.func16, Try.ntmps16
        go_wp2_with fail
        refine (HC.out _).mono ?_
        rintro e w1 ⟨rfl, hb1⟩
        have HB := hide (below_next A0.out hb1)
        have T1 := hide (T0.out.below hb1)
        obtain ⟨t0, t1⟩ := T1.out
        clear hb1
        go_wp2_with fail
        refine (C1.out _ HB.out).mono ?_
        rintro e w2 ⟨rfl, hb2⟩
        have HB2 := hide (below_next HB.out hb2)
        obtain ⟨s0, s1⟩ := T1.out.below hb2
        clear hb2 t0 t1
        go_wp2_with fail
        refine (C2.out _ HB2.out).mono ?_
        rintro e w3 ⟨rfl, hb3⟩
        have HB3 := hide (below_next HB2.out hb3)
        clear hb3
        go_wp2_with fail
        go_ret
        exact ⟨ret_int HF2.out.symm, HB3.out⟩
      · have HF2 := hide (show F = 0 from HF'.out)
        clear HF'
        go_enter Try.func16, Try.ntmps16
        go_wp2_with fail
        refine (HC.out _).mono ?_
        rintro e w1 ⟨rfl, hb1⟩
        have HB := hide (below_next A0.out hb1)
        have T1 := hide (T0.out.below hb1)
        obtain ⟨t0, t1⟩ := T1.out
        clear hb1
        go_wp2_with fail
        refine (C1.out _ HB.out).mono ?_
        rintro e w2 ⟨rfl, hb2⟩
        have HB2 := hide (below_next HB.out hb2)
        obtain ⟨s0, s1⟩ := T1.out.below hb2
        clear hb2 t0 t1
        go_wp2_with fail
        refine (C2.out _ HB2.out).mono ?_
        rintro e w3 ⟨rfl, hb3⟩
        have HB3 := hide (below_next HB2.out hb3)
        clear hb3
        go_wp2_with fail
        go_ret
        exact ⟨ret_int HF2.out.symm, HB3.out⟩
theorem counted1_any (sa : Option Addr) (sc : Nat) (S : List Int) (w : World) (hs : Reads .u8 w sa S) (us : U8 S) (cs : S.length ≤ sc) (ns : S.length ≤ 1048576) :
    Calls Try.prog 44 #[.agg #[.slice sa S.length sc, .slice none 0 0]] w fun e w' => e = .returned (.agg #[.int .i64 0, .int .i64 ((lines S).length : Int), .slice sa S.length sc, .slice none 0 0]) ∧ Below w.heap.size w w' :=
  counted_any sa none sc 0 S [] w hs (fun e => absurd rfl e) us (fun z hz => by simp at hz) cs (Nat.le_refl _) ns (by simp)
theorem join1_any (sa : Option Addr) (sc : Nat) (S : List Int) (g : Nat) (w : World) (hc : w.cell? ⟨g, 0, none⟩ = some (.slice sa S.length sc)) (h : Reads .u8 w sa S) (hl : S.length ≤ 1048576) :
    Calls Try.prog 45 #[.slice (some ⟨g, 0, none⟩) 1 1] w fun e w' => ∃ a' c', e = .returned (.slice a' S.length c') ∧ GB w.heap.size w'.heap.size w' (.slice a' S.length c') S ∧ Below w.heap.size w w' := by
  have e : partsZ [(sa, S, sc)] = S := by simp [partsZ]
  have := joinedR_any g 1 [(sa, S, sc)] w (World.block_lt_of_cell? w _ hc) (fun j p hp => by
    cases j with
    | zero => simp at hp; subst hp; exact hc
    | succ j => simp at hp) (fun p hp => by simp at hp; subst hp; exact h) (by simp) (by rw [e]; exact hl)
  rw [e] at this
  exact this
theorem join2_any (sa la : Option Addr) (sc lc : Nat) (S L Z : List Int) (g : Nat) (w : World) (hZ : S ++ L = Z) (hc : w.cell? ⟨g, 0, none⟩ = some (.slice sa S.length sc)) (hc2 : w.cell? ⟨g, 1, none⟩ = some (.slice la L.length lc)) (h : Reads .u8 w sa S) (h2 : Reads .u8 w la L) (hl : S.length + L.length ≤ 1048576) :
    Calls Try.prog 45 #[.slice (some ⟨g, 0, none⟩) 2 2] w fun e w' => ∃ a' c', e = .returned (.slice a' Z.length c') ∧ GB w.heap.size w'.heap.size w' (.slice a' Z.length c') Z ∧ Below w.heap.size w w' := by
  have e : partsZ [(sa, S, sc), (la, L, lc)] = Z := by rw [← hZ]; simp [partsZ]
  have := joinedR_any g 2 [(sa, S, sc), (la, L, lc)] w (World.block_lt_of_cell? w _ hc) (fun j p hp => by
    cases j with
    | zero => simp at hp; subst hp; exact hc
    | succ j =>
      cases j with
      | zero => simp at hp; subst hp; exact hc2
      | succ j => simp at hp) (fun p hp => by simp at hp; rcases hp with rfl | rfl; exact h; exact h2) (by simp) (by rw [e, ← hZ, List.length_append]; exact hl)
  rw [e] at this
  exact this
end Go.Proofs.Ytpikgmbjgfdcfaa

namespace Go.Proofs.Ytpikgmbjgfdcfaa
open Go.RowKit
set_option linter.unusedVariables false

theorem dropZ {zs : List Int} {k : Nat} (h : k ≤ (lines zs).length) : (lines zs).drop k = lines (zs.drop (endL ((lines zs).take k))) := by
  obtain ⟨g, r, hr, h0⟩ := lines_good _ zs (Nat.le_refl _)
  have gt : GoodL ((lines zs).take k) := fun x hx => g x (List.mem_of_mem_take hx)
  have gd : GoodL ((lines zs).drop k) := fun x hx => g x (List.mem_of_mem_drop hx)
  have e1 : zs = flatL ((lines zs).take k) ++ (flatL ((lines zs).drop k) ++ r) := by
    conv => lhs; rw [hr]
    rw [← List.append_assoc]
    congr 1
    unfold flatL
    rw [← List.flatMap_append, List.take_append_drop]
  have e2 : zs.drop (endL ((lines zs).take k)) = flatL ((lines zs).drop k) ++ r := by
    generalize hq : (lines zs).take k = q at *
    generalize hq2 : (lines zs).drop k = q2 at *
    rw [e1, ← flatL_len, List.drop_left]
  rw [e2, lines_flat gd, lines_none h0, List.append_nil]
theorem endTake {zs : List Int} (k : Nat) : endL ((lines zs).take k) ≤ zs.length := by
  have h1 := end_le zs
  have h2 : endL (lines zs) = endL ((lines zs).take k) + endL ((lines zs).drop k) := by
    rw [← endL_app, List.take_append_drop]
  omega
set_option maxRecDepth 100000 in
set_option maxHeartbeats 1600000 in
theorem l14Read_any (a : Option Addr) (c n : Nat) (zs : List Int) (w : World) (h : Reads .u8 w a zs) (hu : U8 zs) (hc : zs.length ≤ c) (hl : zs.length ≤ 1048576) (hn : n = zs.length) :
    Calls Try.prog 49 #[.slice a n c] w fun e w' => ∃ av cv, e = .returned (.tuple #[.slice av (lines zs).length cv, .int .i64 (endL (lines zs) : Int)]) ∧ OwnS w.heap.size w' (.slice av (lines zs).length cv) (lines zs) ∧ Below w.heap.size w w' := by
  obtain ⟨i1, ki, kz0, kz1, kz2⟩ := info_parts infoS
  by_cases hz : zs = []
  · subst hz
    subst hn
    have HC := hide (fun (u : World) (p : Option Addr) (c' : Nat) => l14One_any p c' [] u (fun e => absurd rfl e) (fun z hz => by simp at hz) (Nat.zero_le _) (by simp))
    have HC' : Hid (∀ (u : World) (p : Option Addr) (c' : Nat), Calls Try.prog 70 #[.slice p 0 c'] u fun e w' => e = .returned (.tuple #[.string ⟨#[]⟩, .int .i64 0]) ∧ Below u.heap.size u w') := hide (fun u p c' => (HC.out u p c').mono (fun e w' ⟨h1, h2⟩ => by
      rcases h1 with ⟨-, h1⟩ | ⟨l, h1, -⟩
      · exact ⟨h1, h2⟩
      · cases h1))
    clear HC h hu hl
    have O1 := hide (World.ownsRow_made (base := w.heap.size) (e := 9) (size := 1) w #[] 0 (Nat.le_refl _) (Nat.zero_le _) rfl)
    show Calls Try.prog 49 #[.slice a 0 c] w fun e w' => ∃ av cv, e = .returned (.tuple #[.slice av 0 cv, .int .i64 0]) ∧ OwnS w.heap.size w' (.slice av 0 cv) [] ∧ Below w.heap.size w w'
    by_cases hc0 : c = 0
    · subst hc0
      cases a <;>
      · go_enter Try.func49, Try.ntmps49
        go_wp2_with fail
        go_loopw [4, 5] (fun v i wr => v = .slice (some ⟨w.heap.size, 0, none⟩) 0 0 ∧ i = .int .i64 0 ∧ Hid (OwnS w.heap.size wr v []) ∧ Hid (Below w.heap.size w wr)) (fun _ _ _ => 0)
        case atStart => exact ⟨rfl, rfl, hide O1.out, hide (below_alloc _ _)⟩
        case round =>
          obtain ⟨rfl, rfl, HO, HB⟩ := hrel
          go_wp2_with fail
          refine (HC'.out _ _ _).mono ?_
          rintro e w1 ⟨rfl, hb1⟩
          have HO1 := hide (HO.out.below hb1)
          have HB1 := hide (below_next HB.out hb1)
          clear hb1
          go_wp2_with fail
          go_ret2
          exact ⟨_, _, rfl, HO1.out, HB1.out⟩
    · cases a <;>
      · go_enter Try.func49, Try.ntmps49
        go_wp2_with fail
        go_loopw [4, 5] (fun v i wr => v = .slice (some ⟨w.heap.size, 0, none⟩) 0 0 ∧ i = .int .i64 0 ∧ Hid (OwnS w.heap.size wr v []) ∧ Hid (Below w.heap.size w wr)) (fun _ _ _ => 0)
        case atStart => exact ⟨rfl, rfl, hide O1.out, hide (below_alloc _ _)⟩
        case round =>
          obtain ⟨rfl, rfl, HO, HB⟩ := hrel
          go_wp2_with fail
          refine (HC'.out _ _ _).mono ?_
          rintro e w1 ⟨rfl, hb1⟩
          have HO1 := hide (HO.out.below hb1)
          have HB1 := hide (below_next HB.out hb1)
          clear hb1
          go_wp2_with fail
          go_ret2
          exact ⟨_, _, rfl, HO1.out, HB1.out⟩
  · obtain ⟨b, off, rfl, -, -⟩ := h hz
    have HC : Hid (∀ (u : World) (k : Nat) (p : Option Addr) (c' : Nat), k ≤ zs.length → Reads .u8 u p (zs.drop k) → zs.length - k ≤ c' → Calls Try.prog 70 #[.slice p (zs.length - k) c'] u fun e w' => OneM (zs.drop k) e ∧ Below u.heap.size u w') := hide (fun u k p c' hk hr hc' => by
      have := l14One_any p c' (zs.drop k) u hr (u8_drop hu k) (by rw [List.length_drop]; exact hc') (by rw [List.length_drop]; omega)
      rwa [List.length_drop] at this)
    have HR := hide (fun (u : World) (hb : Below w.heap.size w u) (k : Nat) (hk : k ≤ zs.length) => show Reads .u8 u (some ⟨b, off + k, none⟩) (zs.drop k) from by
      have := reads_part (h.below hb) k (zs.length - k) (by omega)
      rwa [List.take_of_length_le (by rw [List.length_drop]; omega)] at this)
    have HET := hide (fun k => endTake (zs := zs) k)
    have HDZ := hide (fun k (hk : k ≤ (lines zs).length) => dropZ (zs := zs) hk)
    have hcnt := lines_count zs
    have O1 := hide (World.ownsRow_made (base := w.heap.size) (e := 9) (size := 1) w #[] 0 (Nat.le_refl _) (Nat.zero_le _) rfl)
    subst hn
    clear h hu
    go_enter Try.func49, Try.ntmps49
    go_wp2_with fail
    go_loopw [4, 5] (fun v i wr => ∃ k : Nat, k ≤ (lines zs).length ∧ i = .int .i64 (endL ((lines zs).take k) : Int) ∧ Hid (OwnS w.heap.size wr v ((lines zs).take k)) ∧ Hid (Below w.heap.size w wr)) (fun _ i _ => zs.length - (intOf i).toNat)
    case atStart => exact ⟨0, Nat.zero_le _, rfl, hide O1.out, hide (below_alloc _ _)⟩
    case round =>
      obtain ⟨k, hk, rfl, HO, HB⟩ := hrel
      obtain ⟨va, vc, rfl⟩ := HO.out.shape
      have hd := HDZ.out k hk
      have hE := HET.out k
      have HE1 := hide (HET.out (k + 1))
      have hlt : ((lines zs).take k).length = k := by rw [List.length_take]; omega
      have HLT := hide hlt
      have HTK := hide (show ∀ l, (lines zs)[k]? = some l → (lines zs).take (k + 1) = (lines zs).take k ++ [l] ∧ endL ((lines zs).take (k + 1)) = endL ((lines zs).take k) + (l.length + 5) from fun l hkl => ⟨by rw [List.take_add_one, hkl]; rfl, by rw [List.take_add_one, hkl, endL_app]; simp [endL]⟩)
      have HFIN := hide (show k = (lines zs).length → (lines zs).take k = lines zs from fun e => by rw [e, List.take_length])
      rw [hlt]
      clear hlt
      generalize hE' : endL ((lines zs).take k) = E at *
      generalize (lines zs).take k = q at *
      have HEQ := hide hE'
      clear hE'
      have HD := hide hd
      clear hd
      have hsz := HB.out.size
      have HO2 : Hid (wr.ownsRow w.heap.size 9 1 (.slice va k vc) k (q.map vS)) := hide (by have := HO.out; unfold OwnS at this; rw [HLT.out] at this; exact this)
      have hzu := HLT.out
      clear HO hzu
      by_cases hEc : E = c
      · subst hEc
        have hzE : zs.length = E := by omega
        have HZE := hide hzE
        have hzz : zs.length - E = 0 := by omega
        have hE2 : (E : Int) ≤ (zs.length : Int) := by omega
        have HCE : Hid (∀ (p : Option Addr) (c' : Nat), Calls Try.prog 70 #[.slice p 0 c'] wr fun e w' => OneM (zs.drop E) e ∧ Below wr.heap.size wr w') := hide (fun p c' => by have := HC.out wr E p c' hE (fun e => absurd (List.drop_of_length_le (by omega)) e) (by omega); rwa [hzz] at this)
        clear hzE hzz
        go_wp2_with fail
        refine (HCE.out _ _).mono ?_
        rintro e w1 ⟨hone, hb1⟩
        have HB1 := hide (below_next HB.out hb1)
        have HO1 := hide (ownsRow_below HO2.out hb1)
        have hsz1 := HB1.out.size
        clear hb1
        rcases hone with ⟨ho, rfl⟩ | ⟨l, ho, rfl⟩
        · have hke : k = (lines zs).length := by
            have := congrArg List.length HD.out
            rw [lines_none ho, List.length_drop, List.length_nil] at this
            omega
          have HQ := hide (HFIN.out hke)
          have HKE := hide hke
          clear ho hke
          go_wp2_with fail
          go_ret2
          refine ⟨va, vc, by rw [← HKE.out, ← HQ.out, HEQ.out]; rfl, ?_, HB1.out⟩
          rw [← HKE.out]
          have := HO1.out
          rw [HQ.out] at this
          unfold OwnS
          rw [← HKE.out]
          exact this
        · have hd2 := HD.out
          rw [lines_some ho] at hd2
          obtain ⟨e1, e2, e3⟩ := drop_line hd2
          obtain ⟨t1, t2⟩ := HTK.out l e1
          have HT1 := hide t1
          have HT2 := hide t2
          have h5 : (E : Int) + ((l.length : Int) + 5) ≤ 1048576 := by have := HE1.out; omega
          have hlq : (((l.length : Int) + 5) == 0) = false := by rw [beq_eq_false_iff_ne]; omega
          have hm1 : k + 1 ≤ maxLen := by unfold maxLen; omega
          have hm2 : (k + 1) * 16 ≤ 140737488355328 := by omega
          clear ho hd2 e1 e2 t1 t2
          go_wp2_with (at_builtin; refine wpList_append_one rfl (.tmp 20) (.tmp 22) 31 rfl w.heap.size 9 i1 (.string ⟨#[]⟩) 1 16 Try.underlying31 ki kz0 kz1 kz2 rfl (by decide) _ _ _ rfl HO1.out rfl rfl (by intro u hu; simp at hu; subst hu; rfl) hm1 hm2 hsz1 ?_; intro v' w2 hown2 hkept; have O2 := hide hown2; have K2 := hide hkept; clear hown2 hkept)
          go_roundw
          case rel =>
            refine ⟨k + 1, by omega, by rw [HT2.out]; go_num, ?_, hide (Kept.below_own HB1.out hsz1 HO1.out K2.out)⟩
            rw [HT1.out]
            refine hide (OwnS.snoc ?_ rfl)
            have := O2.out
            rw [HLT.out]
            exact this
          case measure => have := HE1.out; have := HT2.out; simp [intOf]; omega
      · have hEc' : ¬ ((c : Int) = (E : Int)) := by omega
        have hEc2 : (E : Int) ≤ (zs.length : Int) := by omega
        go_wp2_with fail
        refine (HC.out wr E _ _ hE (HR.out _ HB.out _ hE) (by omega)).mono ?_
        rintro e w1 ⟨hone, hb1⟩
        have HB1 := hide (below_next HB.out hb1)
        have HO1 := hide (ownsRow_below HO2.out hb1)
        have hsz1 := HB1.out.size
        clear hb1
        rcases hone with ⟨ho, rfl⟩ | ⟨l, ho, rfl⟩
        · have hke : k = (lines zs).length := by
            have := congrArg List.length HD.out
            rw [lines_none ho, List.length_drop, List.length_nil] at this
            omega
          have HQ := hide (HFIN.out hke)
          have HKE := hide hke
          clear ho hke
          go_wp2_with fail
          go_ret2
          refine ⟨va, vc, by rw [← HKE.out, ← HQ.out, HEQ.out]; rfl, ?_, HB1.out⟩
          rw [← HKE.out]
          have := HO1.out
          rw [HQ.out] at this
          unfold OwnS
          rw [← HKE.out]
          exact this
        · have hd2 := HD.out
          rw [lines_some ho] at hd2
          obtain ⟨e1, e2, e3⟩ := drop_line hd2
          obtain ⟨t1, t2⟩ := HTK.out l e1
          have HT1 := hide t1
          have HT2 := hide t2
          have h5 : (E : Int) + ((l.length : Int) + 5) ≤ 1048576 := by have := HE1.out; omega
          have hlq : (((l.length : Int) + 5) == 0) = false := by rw [beq_eq_false_iff_ne]; omega
          have hm1 : k + 1 ≤ maxLen := by unfold maxLen; omega
          have hm2 : (k + 1) * 16 ≤ 140737488355328 := by omega
          clear ho hd2 e1 e2 t1 t2
          go_wp2_with (at_builtin; refine wpList_append_one rfl (.tmp 20) (.tmp 22) 31 rfl w.heap.size 9 i1 (.string ⟨#[]⟩) 1 16 Try.underlying31 ki kz0 kz1 kz2 rfl (by decide) _ _ _ rfl HO1.out rfl rfl (by intro u hu; simp at hu; subst hu; rfl) hm1 hm2 hsz1 ?_; intro v' w2 hown2 hkept; have O2 := hide hown2; have K2 := hide hkept; clear hown2 hkept)
          go_roundw
          case rel =>
            refine ⟨k + 1, by omega, by rw [HT2.out]; go_num, ?_, hide (Kept.below_own HB1.out hsz1 HO1.out K2.out)⟩
            rw [HT1.out]
            refine hide (OwnS.snoc ?_ rfl)
            have := O2.out
            rw [HLT.out]
            exact this
          case measure => have := HE1.out; have := HT2.out; simp [intOf]; omega
end Go.Proofs.Ytpikgmbjgfdcfaa

namespace Go.Proofs.Ytpikgmbjgfdcfaa
open Go.RowKit
set_option linter.unusedVariables false

theorem step_app_rd {P : Program} {w : World} {ops : Array Oper} {o : Oper} {a : Act} {K : Act → World → Prop} {Q : Exit → Act → World → Prop} {E : Prop} (hgd : o.guard = none) (s x : Operand) (t : TypeId)
    (ho : o.op = .call { callee := .builtin .append, args := #[s, x], argTypes := #[t, t] })
    (base : Nat) (e : TypeId) (i : TypeInfo) (hu : P.underlying t = some (.slice e)) (hi : P.info? e = some i) (hz : i.zero = some (.int .u8 0)) (hsize : i.size = 1) (hby : i.bytes = 1)
    (v : Value) (n : Nat) (ys : List Int) (hs : a.eval s = v) (hown : w.ownsRow base e 1 v n (ys.map (Value.int .u8)))
    (xa : Option Addr) (m cap : Nat) (zs : List Int) (hx : a.eval x = .slice xa m cap) (hm : m = zs.length) (hr : Reads .u8 w xa zs)
    (N : Nat) (hN : n + m = N) (h63 : n + m ≤ maxLen) (hbytes : (n + m) * 1 ≤ 140737488355328) (hbase : base ≤ w.heap.size)
    (h : ∀ av cv w', w'.ownsRow base e 1 (.slice av N cv) N ((ys ++ zs).map (Value.int .u8)) → Kept (fun b => v.ownBlock = some b) w w' → K (a.put o.dst (.slice av N cv)) w') :
    if Region.wanted o (yielded ops a.tmps) = true then Oper.wp P o a w K Q else E := by
  have hw : Region.wanted o (yielded ops a.tmps) = true := by simp [Region.wanted, hgd]
  rw [if_pos hw]
  cases xa with
  | some ad =>
    refine wp_append_own w s x t ho base e i (.int .u8 0) 1 1 hu hi hz hsize hby rfl (by decide) v n _ hs hown ad m cap (zs.map (Value.int .u8)) hx (by simp [hm]) (fun j u hj => ?_) (ints_one _ _) h63 hbytes hbase fun v' w' h2 h3 _ => ?_
    · have h0 : zs ≠ [] := fun e => by subst e; simp at hj
      obtain ⟨b, off, e1, hb, hc⟩ := hr h0
      simp only [Option.some.injEq] at e1
      subst e1
      exact reads_news hc j u hj
    · rw [← List.map_append, hN] at h2
      obtain ⟨av, cv, rfl⟩ := ownsRow_shape h2
      exact h av cv w' h2 ⟨h3.os, h3.tape, h3.output, h3.size, fun q hq hn => h3.block q hq (fun e => hn e.symm)⟩
  | none =>
    have h0 : zs = [] := by
      by_cases h0 : zs = []
      · exact h0
      · obtain ⟨b, off, e1, _⟩ := hr h0; cases e1
    subst h0
    simp only [List.length_nil] at hm
    subst hm
    rw [Nat.add_zero] at hN
    subst hN
    obtain ⟨av, cv, rfl⟩ := ownsRow_shape hown
    have hc : n ≤ cv := ownsRow_cap hown
    have hrun : (Builtin.append_ #[t, t] o.type #[.slice av n cv, .slice none 0 cap]).run P w = .ok (.slice av n cv) w := by
      rcases hown.2 with ⟨h1, h2⟩ | ⟨g, cap', cur, h1, _⟩
      · simp only [Value.slice.injEq] at h1
        obtain ⟨rfl, rfl, rfl⟩ := h1
        simp [Builtin.append_, run_underlying hu, sizeOf, typeInfo, hi, Builtin.lenOf, Builtin.firstCells]
      · simp only [Value.slice.injEq] at h1
        obtain ⟨rfl, -, rfl⟩ := h1
        simp [Builtin.append_, run_underlying hu, sizeOf, typeInfo, hi, Builtin.lenOf, Builtin.firstCells, storeCells, hc]
    unfold Oper.wp execOp
    simp only [ho, resolve, invoke, builtin, Sem.run_bind, Sem.run_pure, Result.andThen_ok, List.map_toArray, List.map_cons, List.map_nil, hs, hx, hrun]
    exact h _ _ w (by simpa using hown) (Kept.refl _ _)

set_option maxRecDepth 100000 in
set_option maxHeartbeats 1600000 in
theorem specReadLines_any (a : Option Addr) (c : Nat) (zs : List Int) (w : World) (h : Reads .u8 w a zs) (hu : U8 zs) (hc : zs.length ≤ c) (hl : zs.length ≤ 1048576) :
    Calls Try.prog 23 #[.slice a zs.length c] w (ResN' (readQ zs) (readL zs) w) := by
  by_cases hb : zs.length ≤ 2000
  · have e1 : readQ zs = 0 := if_pos hb
    have e2 : readL zs = lines zs := if_pos hb
    rw [e1, e2]
    have hb' : ¬ (2000 : Int) < (zs.length : Int) := by omega
    have X0 := hide (Box.new w (.int .i64 0) (.slice none 0 0) 33)
    have A0 := hide (below_alloc w (.cells #[.int .i64 0, .slice none 0 0] 33))
    have HC := hide (l14Read_any a c zs.length zs (w.alloc (.cells #[.int .i64 0, .slice none 0 0] 33)) (h.below A0.out) hu hc hl rfl)
    clear h hu e1 e2 hb
    go_enter Try.func23, Try.ntmps23
    go_wp2_with fail
    refine HC.out.mono ?_
    rintro e w1 ⟨va, vc, rfl, ho, hb1⟩
    have HO := hide ho
    have HB := hide (below_next A0.out hb1)
    obtain ⟨⟨t0, t1⟩, t2, t3⟩ := X0.out.below hb1
    clear ho hb1
    go_wp2_with fail
    refine bodyPost_ret (v := .agg #[.int .i64 0, .slice va (lines zs).length vc]) (by simp [results, Try.results23, go_sem, t0, t1]) rfl ⟨va, vc, rfl, ?_, (HB.out.setCell (Nat.le_refl _) _).setCell (Nat.le_refl _) _⟩
    exact OwnS.mono (ownsRow_kept (S := fun b => b = w.heap.size) HO.out (Kept.two w1 w.heap.size 0 1 (.int .i64 0) (.slice va (lines zs).length vc)) (fun b hb e => by have := (World.ownsRow.lt HO.out b hb).1; simp at this; omega)) (by simp)
  · have e1 : readQ zs = 2 := if_neg hb
    have e2 : readL zs = [] := if_neg hb
    rw [e1, e2]
    have hb' : (2000 : Int) < (zs.length : Int) := by omega
    clear h hu e1 e2 hb
    go_enter Try.func23, Try.ntmps23
    go_wp2_with fail
    exact bodyPost_ret (v := .agg #[.int .i64 2, .slice none 0 0]) (by simp [results, Try.results23, go_sem]) rfl ⟨none, 0, rfl, OwnS.nil _ _, by first | exact below_alloc _ _ | exact (Below.refl _ _).alloc (Nat.le_refl _) _ | exact ((below_alloc _ _).setCell (Nat.le_refl _) _).setCell (Nat.le_refl _) _⟩
set_option maxRecDepth 100000 in
set_option maxHeartbeats 1600000 in
theorem l14Fault_any (b : Nat) (sa la : Option Addr) (sc lc : Nat) (S L : List Int) (w : World) (hT : Two w b (.slice sa S.length sc) (.slice la L.length lc)) (h : RdL' w sa sc S la lc L) :
    Calls Try.prog 47 #[.pointer (some ⟨b, 0, none⟩)] w fun e w' => e = .returned (.int .i64 (logF S L)) ∧ Below w.heap.size w w' := by
  have T0 := hide hT
  have hsl := h.slen
  have hll := h.llen
  have C1 := hide (fun (u : World) (hb : Below w.heap.size w u) => l14Read_any sa sc S.length S u (h.sure.below hb) h.su8 h.scap h.slen rfl)
  have C2 := hide (fun (u : World) (hb : Below w.heap.size w u) => l14Read_any la lc L.length L u (h.loose.below hb) h.lu8 h.lcap h.llen rfl)
  by_cases hb : 2000 < S.length + L.length
  · rw [logF_many hb]
    have hd : (2000 : Int) < (S.length : Int) + (L.length : Int) := by omega
    obtain ⟨t0, t1⟩ := T0.out
    clear h hT C1 C2 hb
    go_enter Try.func47, Try.ntmps47
    go_wp2_with fail
    go_quiet (fail)
    go_wp2_with fail
    go_ret
    exact ⟨rfl, below_dn _ nq⟩
  · have HF : Hid (logF S L = if (wholeZ S && wholeZ L) = true then 0 else 5) := hide (if_pos (by omega))
    have hd : ¬ (2000 : Int) < (S.length : Int) + (L.length : Int) := by omega
    have hws : wholeZ S = ((endL (lines S) : Int) == (S.length : Int)) := by unfold wholeZ; rw [Bool.eq_iff_iff]; simp; omega
    have hwl : wholeZ L = ((endL (lines L) : Int) == (L.length : Int)) := by unfold wholeZ; rw [Bool.eq_iff_iff]; simp; omega
    generalize logF S L = F at *
    rw [hws, hwl] at HF
    clear h hT hb hws hwl
    obtain ⟨t0, t1⟩ := T0.out
    go_enter Try.func47, Try.ntmps47
    go_wp2_with fail
    go_quiet (fail)
    have B1 := hide (below_dn w nq)
    have T1 := hide (T0.out.below B1.out)
    clear t0 t1
    generalize w.drewN nq = w1 at *
    obtain ⟨t0, t1⟩ := T1.out
    go_wp2_with fail
    refine (C1.out _ B1.out).mono ?_
    rintro e w2 ⟨va, vc, rfl, -, hb2⟩
    have B2 := hide (below_next B1.out hb2)
    have T2 := hide (T1.out.below hb2)
    clear hb2 t0 t1 B1 T1
    obtain ⟨t0, t1⟩ := T2.out
    by_cases e1 : (endL (lines S) : Int) = (S.length : Int)
    · have e1' : ((endL (lines S) : Int) == (S.length : Int)) = true := beq_iff_eq.2 e1
      rw [e1', Bool.true_and] at HF
      generalize endL (lines S) = p at *
      have HE1 := hide e1
      clear e1
      go_wp2_with fail
      refine (C2.out _ B2.out).mono ?_
      rintro e w3 ⟨vb, vd, rfl, -, hb3⟩
      have B3 := hide (below_next B2.out hb3)
      have T3 := hide (T2.out.below hb3)
      clear hb3 t0 t1 B2 T2
      obtain ⟨t0, t1⟩ := T3.out
      by_cases e2 : (endL (lines L) : Int) = (L.length : Int)
      · have e2' : ((endL (lines L) : Int) == (L.length : Int)) = true := beq_iff_eq.2 e2
        have HF2 := hide (show F = 0 by rw [HF.out, e2']; rfl)
        generalize endL (lines L) = q at *
        clear e2 HF
        go_wp2_with fail
        go_ret
        exact ⟨ret_int HF2.out.symm, B3.out⟩
      · have e2' : ((endL (lines L) : Int) == (L.length : Int)) = false := beq_eq_false_iff_ne.2 e2
        have HF2 := hide (show F = 5 by rw [HF.out, e2']; rfl)
        generalize endL (lines L) = q at *
        clear e2 HF
        go_wp2_with fail
        go_ret
        exact ⟨ret_int HF2.out.symm, B3.out⟩
    · have e1' : ((endL (lines S) : Int) == (S.length : Int)) = false := beq_eq_false_iff_ne.2 e1
      rw [e1', Bool.false_and] at HF
      have HF2 := hide (show F = 5 by rw [HF.out]; rfl)
      generalize endL (lines S) = p at *
      clear e1 HF
      go_wp2_with fail
      go_ret
      exact ⟨ret_int HF2.out.symm, B2.out⟩
end Go.Proofs.Ytpikgmbjgfdcfaa

namespace Go.Proofs.Ytpikgmbjgfdcfaa
open Go.RowKit
set_option linter.unusedVariables false

theorem made_zero (w : World) (e : TypeId) (base g : Nat) (hb : base ≤ w.heap.size) (hg : g = w.heap.size) : (w.alloc (.cells #[] e)).ownsRow base e 1 (.slice (some ⟨g, 0, none⟩) 0 0) 0 (([] : List Int).map (Value.int .u8)) := by
  subst hg
  exact ownsRow_mono (World.ownsRow_made (base := w.heap.size) (e := e) (size := 1) w #[] 0 (Nat.le_refl _) (Nat.zero_le _) rfl) hb
theorem Box4r.kept {S : Nat → Prop} {w w' : World} {b : Nat} {u0 u1 u2 u3 : Value} (h : Box4r w b u0 u1 u2 u3) (hk : Kept S w w') (hn : ¬ S b) : Box4r w' b u0 u1 u2 u3 := by
  obtain ⟨⟨h0, h1, h2, h3⟩, hf⟩ := h
  have hb : b < w.heap.size := World.block_lt_of_cell? w ⟨b, 0, none⟩ h0
  exact ⟨⟨(hk.cell (p := ⟨b, 0, none⟩) hb hn).trans h0, (hk.cell (p := ⟨b, 1, none⟩) hb hn).trans h1, (hk.cell (p := ⟨b, 2, none⟩) hb hn).trans h2, (hk.cell (p := ⟨b, 3, none⟩) hb hn).trans h3⟩, fun i => (hk.frozen (p := ⟨b, i, none⟩) hb hn).trans (hf i)⟩
theorem tk' {P : Program} {ops : Array Oper} {Q : Exit → Act → World → Prop} {md : Region.Mode} {S : World → Prop} (i d : Nat) (v : Value) {op : Op} {ty : TypeId} {pos : String} {af : Array Edge} {gd : Option (Nat × Bool)} {fuel : Nat} {listed : Array Bool} {a : Act} {w : World} (hS : S w) (hi : ops[i]? = some { dst := some d, op := op, type := ty, pos := pos, after := af, guard := gd })
    (hs : Region.noSelect ops = true) (hf : Region.free md ops listed i = true) (hr : (Region.ready md ops listed).contains i = true) (hQ : ∀ c a w, Q (.panic c) (a.put (some d) v) w → Q (.panic c) a w) (hy : YieldsIf P ops S { dst := some d, op := op, type := ty, pos := pos, after := af, guard := gd } v a)
    (h : wpAnyH P md ops Q S fuel (listed.setIfInBounds i true) (a.put (some d) v) w) : wpAnyH P md ops Q S (fuel + 1) listed a w := wpAnyH_take hi hs hf hr hQ hy hS h
set_option maxRecDepth 100000 in
set_option maxHeartbeats 1600000 in
theorem l14Of_any (sa la : Option Addr) (sc lc : Nat) (S L : List Int) (w : World) (h : RdL' w sa sc S la lc L) :
    Calls Try.prog 50 #[.slice sa S.length sc, .slice la L.length lc] w (ResG' 0 (((lines S).length + (lines L).length : Nat) : Int) S L w) := by
  obtain ⟨i1, ki, kz0, kz1, kz2⟩ := info_parts Try.infoU8
  have A0 := hide (below_alloc w (.cells #[.int .i64 0, .int .i64 0, .slice none 0 0, .slice none 0 0] 29))
  have X0 := hide (Box4r.new w (.int .i64 0) (.int .i64 0) (.slice none 0 0) (.slice none 0 0) 29)
  have C1 := hide (fun (u : World) (hb : Below w.heap.size w u) => l14Read_any sa sc S.length S u (h.sure.below hb) h.su8 h.scap h.slen rfl)
  have C2 := hide (fun (u : World) (hb : Below w.heap.size w u) => l14Read_any la lc L.length L u (h.loose.below hb) h.lu8 h.lcap h.llen rfl)
  have hc1 := lines_count S
  have hc2 := lines_count L
  have hsl := h.slen
  have hll := h.llen
  have R1 := hide (fun (u : World) (hb : Below w.heap.size w u) => h.sure.below hb)
  have R2 := hide (fun (u : World) (hb : Below w.heap.size w u) => h.loose.below hb)
  have hm1 : 0 + S.length ≤ maxLen := by unfold maxLen; omega
  have hm2 : (0 + S.length) * 1 ≤ 140737488355328 := by omega
  have hm3 : 0 + L.length ≤ maxLen := by unfold maxLen; omega
  have hm4 : (0 + L.length) * 1 ≤ 140737488355328 := by omega
  generalize (lines S).length = p at *
  generalize (lines L).length = q at *
  clear h
  go_enter Try.func50, Try.ntmps50
  go_wp2_with fail
  refine (C1.out _ A0.out).mono ?_
  rintro e w1 ⟨va, vc, rfl, -, hb1⟩
  have B1 := hide (below_next A0.out hb1)
  have X1 := hide (X0.out.below hb1)
  clear hb1 X0
  go_wp2_with fail
  refine (C2.out _ B1.out).mono ?_
  rintro e w2 ⟨vb, vd, rfl, -, hb2⟩
  have B2 := hide (below_next B1.out hb2)
  have X2 := hide (X1.out.below hb2)
  have hs2 : w.heap.size + 1 ≤ w2.heap.size := by have := X2.out; have := World.block_lt_of_cell? w2 ⟨w.heap.size, 0, none⟩ this.1.1; exact this
  clear hb2 X1 B1
  have A2 := hide (below_alloc w2 (.cells #[] 5))
  go_wp2_with (first
    | (at_builtin; refine wpList_app_rd rfl (.tmp 24) (.tmp 25) 22 rfl w2.heap.size 5 i1 Try.underlying22 ki kz0 kz1 kz2 _ 0 [] rfl (made_zero w2 _ _ _ (Nat.le_refl _) rfl) sa _ sc S rfl rfl (R1.out _ (below_next B2.out A2.out)) _ rfl hm1 hm2 (by simp) ?_; intro av cv w3 ho3 hk3; have O3 := hide ho3; have K3 := hide (show Kept (fun b => some w2.heap.size = some b) _ w3 from hk3); clear ho3 hk3; have B3 := hide ((below_next B2.out A2.out).trans (K3.out.below (B := w.heap.size) (by simp; omega) (fun k hk e => by simp at e; omega))); have hs3 : w2.heap.size + 1 ≤ w3.heap.size := (by have := K3.out.size; simpa using this); have X3 := hide ((X2.out.below A2.out).kept K3.out (by simp; omega)); have A3 := hide (below_alloc w3 (.cells #[] 5)))
    | (at_builtin; refine wpList_app_rd rfl (.tmp 27) (.tmp 28) 22 rfl w3.heap.size 5 i1 Try.underlying22 ki kz0 kz1 kz2 _ 0 [] rfl (made_zero w3 _ _ _ (Nat.le_refl _) rfl) la _ lc L rfl rfl (R2.out _ (below_next B3.out A3.out)) _ rfl hm3 hm4 (by simp) ?_; intro bv dv w4 ho4 hk4; have O4 := hide ho4; have K4 := hide (show Kept (fun b => some w3.heap.size = some b) _ w4 from hk4); clear ho4 hk4; have hs4 : w3.heap.size + 1 ≤ w4.heap.size := (by have := K4.out.size; simpa using this); have X4 := hide ((X3.out.below A3.out).kept K4.out (by simp; omega)); obtain ⟨⟨y0, y1, y2, y3⟩, yf⟩ := X4.out; have yf0 := yf 0; have yf1 := yf 1; have yf2 := yf 2; have yf3 := yf 3; clear yf)
    | fail)
  have B4 := hide ((below_next B3.out A3.out).trans (K4.out.below (B := w.heap.size) (by simp; omega) (fun k hk e => by simp at e; omega)))
  have G3 : Hid (GB w2.heap.size w3.heap.size w3 (.slice av S.length cv) S) := hide (GB.mk (by simpa using O3.out) rfl)
  have G4 : Hid (GB w3.heap.size w4.heap.size w4 (.slice bv L.length dv) L) := hide (GB.mk (by simpa using O4.out) rfl)
  have G3' := hide (((G3.out.below A3.out).kept K4.out (fun b h1 h2 e => by simp at e; omega)).kept (S := fun b => b = w.heap.size) (Kept.four4 w4 w.heap.size (.int .i64 0) (.int .i64 ((p + q : Nat) : Int)) (.slice av S.length cv) (.slice bv L.length dv)) (fun b h1 h2 e => by omega))
  have G4' := hide (G4.out.kept (S := fun b => b = w.heap.size) (Kept.four4 w4 w.heap.size (.int .i64 0) (.int .i64 ((p + q : Nat) : Int)) (.slice av S.length cv) (.slice bv L.length dv)) (fun b h1 h2 e => by omega))
  go_wp2_with fail
  refine bodyPost_ret (v := .agg #[.int .i64 0, .int .i64 ((p + q : Nat) : Int), .slice av S.length cv, .slice bv L.length dv]) (by simp [results, Try.results50, go_sem, y0, y1, y2, y3]) rfl ⟨av, cv, bv, dv, w3.heap.size, rfl, ?_, ?_, by omega, by simp; omega, below_four B4.out (by omega) _ _ _ _⟩
  · exact G3'.out.low (by omega)
  · exact ⟨G4'.out.1, fun x hx => by have := G4'.out.2 x hx; simp; omega⟩
end Go.Proofs.Ytpikgmbjgfdcfaa

