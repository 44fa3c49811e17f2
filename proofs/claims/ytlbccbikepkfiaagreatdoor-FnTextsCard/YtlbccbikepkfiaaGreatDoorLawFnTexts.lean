/-
  At every byte slice the law FnTexts returns true, and the card that ties the listed variables to the program's text: a layer is read back from its text, and a text that is read is just that of its layer. No condition but what the row lists.
-/
import Derived.Test.YtlbccbikepkfiaaGreatDoorTxtD
import Derived.Test.YtlbccbikepkfiaaGreatDoorParR
import Derived.Test.YtlbccbikepkfiaaGreatDoorParJ
import Derived.Test.YtlbccbikepkfiaaGreatDoorIteH
import Derived.Test.YtlbccbikepkfiaaGreatDoorHandS
import Derived.Test.YtlbccbikepkfiaaGreatDoorCards
import Derived.Test.YtlbccbikepkfiaaGreatDoorTie
import Derived.ProofKit
import Derived.OpenShut
import Derived.ShutString
import Derived.ChangeOld
import Derived.LaidMore
import Derived.Lay
import Derived.SevenTiedAt
import Derived.Stop.Joined
import Derived.Stop.LaidErr
import Derived.OpenVars
import Derived.ChangeVars
import Derived.Deep.DrawnRows
import Derived.Deep.CutRange
import Derived.Deep.RegionHeld3
namespace Go.Proofs.YtlbccbikepkfiaaGreatDoor.fnTexts
open Go.ChangeShapes Go.WideShapes Go.ChangeAt Go.RowKit Go.Maps
set_option linter.unusedVariables false
attribute [local go_sem ↓] Go.wp_at_zero Go.wp_at_succ

theorem own : ownKnob Tryz.prog.godebug = none := by kernel_rfl
theorem laidOut : laidOutB Tryz.prog = true := by kernel_rfl
theorem bytes_of_trod {H : Type} {enc : TypeId × Value → H} {W : World} {a : Option Addr} {n c fuel : Nat} {x : DataW H × List MemPlace}
    (h : DataW.trod enc Tryz.prog W 0 (fun _ => true) true fuel 22 [.slice a n c] = some x) : ∃ zs : List Int, zs.length = n ∧ Reads .u8 W a zs ∧ U8 zs ∧ zs.length ≤ maxLen := by
  rcases open_ints Tryz.underlying22 Tryz.underlying5 (by kernel_rfl) h with ⟨hcs, _⟩ | ⟨x, l, c, zs, hcs, _, hl, hm, hz, _, hcell, hwz⟩
  · simp at hcs
    obtain ⟨rfl, rfl, rfl⟩ := hcs
    exact ⟨[], rfl, fun h => absurd rfl h, fun z hz => by simp at hz, Nat.zero_le _⟩
  · simp at hcs
    obtain ⟨rfl, rfl, rfl⟩ := hcs
    exact reads_of_row (by simpa using hz) hl hm hcell hwz
theorem lwBig_no (a : Option Addr) (cap : Nat) (n : Nat) (w : World) (h : n ≤ 1048576) :
    Calls Tryz.prog 4 #[.slice a n cap] w fun e w' => e = .returned (.bool false) ∧ w' = w := by
  have hb : ¬ (1048576 : Int) < (n : Int) := by omega
  go_enter Tryz.func4, Tryz.ntmps4
  go_wp2
  go_ret
  exact ⟨ret_bool (by simp <;> omega), rfl⟩
theorem lwBig_yes (a : Option Addr) (cap : Nat) (n : Nat) (w : World) (h : 1048576 < n) (h2 : n ≤ maxLen) :
    Calls Tryz.prog 4 #[.slice a n cap] w fun e w' => e = .returned (.bool true) ∧ w' = w := by
  have hb : (1048576 : Int) < (n : Int) := by omega
  unfold maxLen at h2
  go_enter Tryz.func4, Tryz.ntmps4
  go_wp2
  go_ret
  exact ⟨ret_bool (by simp <;> omega), rfl⟩

theorem lay_zero {t : Bs} (h : layCode t = 0) : ∃ es, layList t = es ∧ Right es ∧ packL es = t := by
  by_cases hl : 600 < t.length
  · rw [(lay_many hl).1] at h; cases h
  · cases hp : parL t with
    | none => rw [(lay_no hl hp).1] at h; cases h
    | some es => exact ⟨es, (lay_so hl hp).2, parL_iff.1 hp⟩
theorem lay_back {es : List En} (h : Right es) (hl : ¬ 600 < (packL es).length) : layCode (packL es) = 0 ∧ layList (packL es) = es := lay_so hl (parL_iff.2 ⟨h, rfl⟩)
theorem right_small {es : List En} (h : Right es) : SmallE es := by
  intro e he
  have h1 := readE_len (readE_of (right_fits h e he))
  have h2 := packL_len h
  have h3 : (textE e).length ≤ (packL es).length := by
    obtain ⟨a, b, rfl⟩ := List.append_of_mem he
    simp [packL]
    omega
  omega

set_option maxRecDepth 100000 in
set_option maxHeartbeats 25600000 in
theorem walk (w : World) (u : TypeId) (vp : Value) (hg : Gl w u vp) (a0 : Option Addr) (cap0 : Nat) (zs : List Int) (h : Reads .u8 w a0 zs) (hu : U8 zs) (hmax : zs.length ≤ maxLen) :
    Calls Tryz.prog 3 #[.slice a0 zs.length cap0] w fun e w' => e = .returned (.bool true) ∧ Below w.heap.size w w' := by
  have HR := hide h
  have HU := hide hu
  have HGB : Hid (∀ w' : World, Below w.heap.size w w' → Gl w' u vp) := hide (fun w' hb => hg.below hb)
  clear h hu hg
  by_cases hbig : 1048576 < zs.length
  · go_enter Tryz.func3, Tryz.ntmps3
    go_wp2_with fail
    refine (lwBig_yes _ _ _ _ hbig hmax).mono ?_
    rintro e w ⟨rfl, rfl⟩
    go_wp2_with fail
    go_ret
    exact ⟨rfl, Below.refl _ _⟩
  · go_enter Tryz.func3, Tryz.ntmps3
    go_wp2_with fail
    refine (lwBig_no _ _ _ _ (by omega)).mono ?_
    rintro e w ⟨rfl, rfl⟩
    go_wp2_with fail
    refine (drawParseLayer_any a0 cap0 zs _ HR.out HU.out (by omega)).mono ?_
    rintro e w1 ⟨ys, dv, dc, rfl, hrd, hyl, hb1⟩
    have RD := hide hrd
    have B1 := hide hb1
    clear hrd hb1
    go_wp2_with fail
    refine (implParseLayer_any dv dc ys u vp w1 (by omega) RD.out (HGB.out _ B1.out)).mono ?_
    rintro r w2 ⟨lv, lc, rfl, hG2, hb2⟩
    have HSP : Hid (∀ u' : World, Below w1.heap.size w1 u' → Calls Tryz.prog 8 #[.slice dv ys.length dc] u' fun r w' => ∃ xv xc, r = .returned (.agg #[.int .i64 (layCode (textB ys)), .slice xv (layList (textB ys)).length xc]) ∧ Below u'.heap.size u' w') := hide (fun u' hb' => (specParseLayer_any dv dc ys u' (by omega) (RD.out.below hb')).mono (fun r w' ⟨xv, xc, h2, _, h3⟩ => ⟨xv, xc, h2, h3⟩))
    have HCV : Hid (∀ u' : World, Below w1.heap.size w1 u' → Sem.run Tryz.prog (convert 22 9 (.slice dv ys.length dc)) u' = .ok (.string (str (textB ys))) u') := hide (fun u' hu => conv_any (RD.out.below hu) dc)
    have A2 := hide (below_alloc w2 (.cells #[.int .i64 (layCode (textB ys)), .slice lv (layList (textB ys)).length lc] 27))
    have X2 := hide (Box.new w2 (.int .i64 (layCode (textB ys))) (.slice lv (layList (textB ys)).length lc) 27)
    have BW2 := hide (below_next hb2 A2.out)
    have B2 := hide (below_next B1.out BW2.out)
    have R2 := hide (hG2.rd.below A2.out)
    clear hG2 hb2 A2
    have HLZ := hide (fun h0 => lay_zero (t := textB ys) h0)
    generalize textB ys = T at *
    obtain ⟨⟨t0, t1⟩, t2, t3⟩ := X2.out
    go_upto_region 5 with fail
    clear t0 t1 t2 t3
    generalize w2.alloc (.cells #[.int .i64 (layCode T), .slice lv (layList T).length lc] 27) = W2 at *
    generalize w2.heap.size = b2 at *
    go_cut [55] from 15 to 123 (fun v55 wc => v55 = .bool false ∧ Hid (Below W2.heap.size W2 wc))
    case first =>
      by_cases hc : layCode T = 0
      · obtain ⟨es, hLL, hRi, hPT⟩ := HLZ.out hc
        have HRi := hide hRi
        have HSm := hide (right_small hRi)
        have hel := hRi.len
        have HTX := hide (show layText es = T by rw [layText_good (right_P.2 hRi)]; exact hPT)
        have HF0 := hide (right_P.2 hRi)
        rw [hc, hLL] at X2 HSP
        rw [hLL] at R2
        clear hc hLL hRi hPT HLZ
        have KC : Hid (∀ w' : World, Below W2.heap.size W2 w' → w'.cell? ⟨b2, 0, none⟩ = some (.int .i64 0) ∧ w'.cell? ⟨b2, 1, none⟩ = some (.slice lv es.length lc) ∧ Sem.run Tryz.prog (convert 22 9 (.slice dv ys.length dc)) w' = .ok (.string (str T)) w') := hide (fun w' hb' => ⟨(X2.out.below hb').1.1, (X2.out.below hb').1.2, HCV.out _ (below_next BW2.out hb')⟩)
        have HPK : Hid (∀ u' : World, Below W2.heap.size W2 u' → Calls Tryz.prog 7 #[.slice lv es.length lc] u' fun r w' => ∃ pv pc, r = .returned (.agg #[.int .i64 0, .slice pv (numsB T).length pc]) ∧ RdB w' pv (numsB T) ∧ Below u'.heap.size u' w') := hide (fun u' hb' => by
          have h1 := implPackLayer_any lv lc es.length es u' (R2.out.below hb') rfl (by omega) HSm.out
          rw [HTX.out, HF0.out] at h1
          refine h1.mono (fun r w' ⟨pv, pc, h2, h3, h4⟩ => ⟨pv, pc, ?_, h3, h4⟩)
          rw [numsB_len]; exact h2)
        have HCB : Hid (∀ (u' : World) (pv : Option Addr) (pc : Nat), RdB u' pv (numsB T) → Sem.run Tryz.prog (convert 22 9 (.slice pv (numsB T).length pc)) u' = .ok (.string (str T)) u') := hide (fun u' pv pc hr => by have h1 := conv_any hr pc; rw [textB_nums] at h1; exact h1)
        have HS2 := hide (fun (u' : World) (hb' : Below W2.heap.size W2 u') => HSP.out u' (below_next BW2.out hb'))
        generalize numsB T = ns at *
        obtain ⟨q0, q1, q2⟩ := KC.out W2 (Below.refl _ _)
        have hw1 : Below W2.heap.size W2 W2.drew := (Below.refl _ _).drew
        have hfb : ∀ (w : World) (v : Value), (Instr.field 30 (.agg #[.int .i64 0, v]) 1).run Tryz.prog w = .ok v w := fun _ _ => by kernel_rfl
        have hfl : ∀ (w : World) (v : Value), (Instr.field 27 (.agg #[.int .i64 0, v]) 1).run Tryz.prog w = .ok v w := fun _ _ => by kernel_rfl
        have hst : ((str T).toList == (str T).toList) = true := by simp
        have hst2 : ((str T).toList != (str T).toList) = false := by simp
        -- region 5, read
        refine wp_region_held_drew (S := fun w' => w'.cell? ⟨b2, 0, none⟩ = some (.int .i64 0) ∧ w'.cell? ⟨b2, 1, none⟩ = some (.slice lv es.length lc) ∧ Sem.run Tryz.prog (convert 22 9 (.slice dv ys.length dc)) w' = .ok (.string (str T)) w') (by kernel_rfl) (KC.out _ (Below.refl _ _).drew) (fun hHeld => ?_)
        change wpAnyH _ _ _ _ _ _ (Array.replicate _ false) _ _
        refine wpAnyH_take (i := 0) (oi := { dst := some 15, op := _, type := _, pos := _, after := _, guard := _ }) (v := .pointer (some ⟨b2, 0, none⟩)) rfl (by kernel_rfl) (by kernel_rfl) (by kernel_rfl) (fun _ _ _ h => h) (Or.inl ⟨by rfl, ?_⟩) hHeld ?_
        · intro w hSw
          (try obtain ⟨q0, q1, q2⟩ := hSw)
          go_simp
        try simp only [Act.put, List.setIfInBounds_toArray, List.set_cons_zero, List.set_cons_succ]
        refine wpAnyH_take (i := 1) (oi := { dst := some 16, op := _, type := _, pos := _, after := _, guard := _ }) (v := .int .i64 0) rfl (by kernel_rfl) (by kernel_rfl) (by kernel_rfl) (fun _ _ _ h => h) (Or.inl ⟨by rfl, ?_⟩) hHeld ?_
        · intro w hSw
          (try obtain ⟨q0, q1, q2⟩ := hSw)
          go_simp
        try simp only [Act.put, List.setIfInBounds_toArray, List.set_cons_zero, List.set_cons_succ]
        refine wpAnyH_take (i := 2) (oi := { dst := some 17, op := _, type := _, pos := _, after := _, guard := _ }) (v := .bool true) rfl (by kernel_rfl) (by kernel_rfl) (by kernel_rfl) (fun _ _ _ h => h) (Or.inl ⟨by rfl, ?_⟩) hHeld ?_
        · intro w hSw
          (try obtain ⟨q0, q1, q2⟩ := hSw)
          go_simp
        try simp only [Act.put, List.setIfInBounds_toArray, List.set_cons_zero, List.set_cons_succ]
        refine wpAnyH_take (i := 3) (oi := { dst := some 18, op := _, type := _, pos := _, after := _, guard := _ }) (v := .bool true) rfl (by kernel_rfl) (by kernel_rfl) (by kernel_rfl) (fun _ _ _ h => h) (Or.inl ⟨by rfl, ?_⟩) hHeld ?_
        · intro w hSw
          (try obtain ⟨q0, q1, q2⟩ := hSw)
          go_simp
        try simp only [Act.put, List.setIfInBounds_toArray, List.set_cons_zero, List.set_cons_succ]
        refine wpAnyH_take (i := 4) (oi := { dst := some 19, op := _, type := _, pos := _, after := _, guard := _ }) (v := .pointer (some ⟨b2, 1, none⟩)) rfl (by kernel_rfl) (by kernel_rfl) (by kernel_rfl) (fun _ _ _ h => h) (Or.inl ⟨by rfl, ?_⟩) hHeld ?_
        · intro w hSw
          (try obtain ⟨q0, q1, q2⟩ := hSw)
          go_simp
        try simp only [Act.put, List.setIfInBounds_toArray, List.set_cons_zero, List.set_cons_succ]
        refine wpAnyH_take (i := 5) (oi := { dst := some 20, op := _, type := _, pos := _, after := _, guard := _ }) (v := .slice lv es.length lc) rfl (by kernel_rfl) (by kernel_rfl) (by kernel_rfl) (fun _ _ _ h => h) (Or.inl ⟨by rfl, ?_⟩) hHeld ?_
        · intro w hSw
          (try obtain ⟨q0, q1, q2⟩ := hSw)
          go_simp
        try simp only [Act.put, List.setIfInBounds_toArray, List.set_cons_zero, List.set_cons_succ]
        refine wpAnyH_take (i := 9) (oi := { dst := some 24, op := _, type := _, pos := _, after := _, guard := _ }) (v := .slice dv ys.length dc) rfl (by kernel_rfl) (by kernel_rfl) (by kernel_rfl) (fun _ _ _ h => h) (Or.inl ⟨by rfl, ?_⟩) hHeld ?_
        · intro w hSw
          (try obtain ⟨q0, q1, q2⟩ := hSw)
          go_simp
        try simp only [Act.put, List.setIfInBounds_toArray, List.set_cons_zero, List.set_cons_succ]
        refine wpAnyH_take (i := 10) (oi := { dst := some 25, op := _, type := _, pos := _, after := _, guard := _ }) (v := .string (str T)) rfl (by kernel_rfl) (by kernel_rfl) (by kernel_rfl) (fun _ _ _ h => h) (Or.inl ⟨by rfl, ?_⟩) hHeld ?_
        · intro w hSw
          (try obtain ⟨q0, q1, q2⟩ := hSw)
          go_simp
        try simp only [Act.put, List.setIfInBounds_toArray, List.set_cons_zero, List.set_cons_succ]
        refine wpAnyH_ready (rs := [6]) (by kernel_rfl) (by simp) ?_
        refine AllReadyH.cons rfl (fun K hK => ?_) AllReadyH.nil
        go_simp
        refine (HPK.out _ hw1).mono ?_
        rintro r w3 ⟨pv, pc, rfl, hrp, hb3⟩
        have BB3 := hide (hw1.trans hb3)
        have hcp := HCB.out w3 pv pc hrp
        clear hrp hb3
        go_wp2_with fail
        refine hK.out _ _ (KC.out _ BB3.out) (fun hHeld => ?_)
        clear hK K
        try simp only [Act.put, List.setIfInBounds_toArray, List.set_cons_zero, List.set_cons_succ]
        refine wpAnyH_take (i := 7) (oi := { dst := some 22, op := _, type := _, pos := _, after := _, guard := _ }) (v := .slice pv ns.length pc) rfl (by kernel_rfl) (by kernel_rfl) (by kernel_rfl) (fun _ _ _ h => h) (Or.inl ⟨by rfl, ?_⟩) hHeld ?_
        · intro w hSw
          (try obtain ⟨q0, q1, q2⟩ := hSw)
          go_simp
        try simp only [Act.put, List.setIfInBounds_toArray, List.set_cons_zero, List.set_cons_succ]
        refine wpAnyH_ready (rs := [8]) (by kernel_rfl) (by simp) ?_
        refine AllReadyH.cons rfl (fun K hK => ?_) AllReadyH.nil
        go_simp
        refine hK.out _ _ (KC.out _ BB3.out) (fun hHeld => ?_)
        clear hK K
        try simp only [Act.put, List.setIfInBounds_toArray, List.set_cons_zero, List.set_cons_succ]
        refine wpAnyH_take (i := 11) (oi := { dst := some 26, op := _, type := _, pos := _, after := _, guard := _ }) (v := .bool false) rfl (by kernel_rfl) (by kernel_rfl) (by kernel_rfl) (fun _ _ _ h => h) (Or.inl ⟨by rfl, ?_⟩) hHeld ?_
        · intro w hSw
          (try obtain ⟨q0, q1, q2⟩ := hSw)
          go_simp
        try simp only [Act.put, List.setIfInBounds_toArray, List.set_cons_zero, List.set_cons_succ]
        refine wpAnyH_take (i := 12) (oi := { dst := some 27, op := _, type := _, pos := _, after := _, guard := _ }) (v := .bool false) rfl (by kernel_rfl) (by kernel_rfl) (by kernel_rfl) (fun _ _ _ h => h) (Or.inl ⟨by rfl, ?_⟩) hHeld ?_
        · intro w hSw
          (try obtain ⟨q0, q1, q2⟩ := hSw)
          go_simp
        try simp only [Act.put, List.setIfInBounds_toArray, List.set_cons_zero, List.set_cons_succ]
        refine wpAnyH_take (i := 13) (oi := { dst := some 28, op := _, type := _, pos := _, after := _, guard := _ }) (v := .bool false) rfl (by kernel_rfl) (by kernel_rfl) (by kernel_rfl) (fun _ _ _ h => h) (Or.inl ⟨by rfl, ?_⟩) hHeld ?_
        · intro w hSw
          (try obtain ⟨q0, q1, q2⟩ := hSw)
          go_simp
        try simp only [Act.put, List.setIfInBounds_toArray, List.set_cons_zero, List.set_cons_succ]
        refine wpAnyH_take (i := 14) (oi := { dst := some 29, op := _, type := _, pos := _, after := _, guard := _ }) (v := .pointer (some ⟨b2, 0, none⟩)) rfl (by kernel_rfl) (by kernel_rfl) (by kernel_rfl) (fun _ _ _ h => h) (Or.inl ⟨by rfl, ?_⟩) hHeld ?_
        · intro w hSw
          (try obtain ⟨q0, q1, q2⟩ := hSw)
          go_simp
        try simp only [Act.put, List.setIfInBounds_toArray, List.set_cons_zero, List.set_cons_succ]
        refine wpAnyH_take (i := 15) (oi := { dst := some 30, op := _, type := _, pos := _, after := _, guard := _ }) (v := .int .i64 0) rfl (by kernel_rfl) (by kernel_rfl) (by kernel_rfl) (fun _ _ _ h => h) (Or.inl ⟨by rfl, ?_⟩) hHeld ?_
        · intro w hSw
          (try obtain ⟨q0, q1, q2⟩ := hSw)
          go_simp
        try simp only [Act.put, List.setIfInBounds_toArray, List.set_cons_zero, List.set_cons_succ]
        refine wpAnyH_take (i := 16) (oi := { dst := some 31, op := _, type := _, pos := _, after := _, guard := _ }) (v := .bool false) rfl (by kernel_rfl) (by kernel_rfl) (by kernel_rfl) (fun _ _ _ h => h) (Or.inl ⟨by rfl, ?_⟩) hHeld ?_
        · intro w hSw
          (try obtain ⟨q0, q1, q2⟩ := hSw)
          go_simp
        try simp only [Act.put, List.setIfInBounds_toArray, List.set_cons_zero, List.set_cons_succ]
        refine wpAnyH_take (i := 17) (oi := { dst := some 32, op := _, type := _, pos := _, after := _, guard := _ }) (v := .bool false) rfl (by kernel_rfl) (by kernel_rfl) (by kernel_rfl) (fun _ _ _ h => h) (Or.inl ⟨by rfl, ?_⟩) hHeld ?_
        · intro w hSw
          (try obtain ⟨q0, q1, q2⟩ := hSw)
          go_simp
        try simp only [Act.put, List.setIfInBounds_toArray, List.set_cons_zero, List.set_cons_succ]
        refine wpAnyH_take (i := 18) (oi := { dst := some 33, op := _, type := _, pos := _, after := _, guard := _ }) (v := undef) rfl (by kernel_rfl) (by kernel_rfl) (by kernel_rfl) (fun _ _ _ h => h) (Or.inr ⟨by rfl, rfl⟩) hHeld ?_
        try simp only [Act.put, List.setIfInBounds_toArray, List.set_cons_zero, List.set_cons_succ]
        refine wpAnyH_take (i := 19) (oi := { dst := some 34, op := _, type := _, pos := _, after := _, guard := _ }) (v := undef) rfl (by kernel_rfl) (by kernel_rfl) (by kernel_rfl) (fun _ _ _ h => h) (Or.inr ⟨by rfl, rfl⟩) hHeld ?_
        try simp only [Act.put, List.setIfInBounds_toArray, List.set_cons_zero, List.set_cons_succ]
        refine wpAnyH_take (i := 20) (oi := { dst := some 35, op := _, type := _, pos := _, after := _, guard := _ }) (v := undef) rfl (by kernel_rfl) (by kernel_rfl) (by kernel_rfl) (fun _ _ _ h => h) (Or.inr ⟨by rfl, rfl⟩) hHeld ?_
        try simp only [Act.put, List.setIfInBounds_toArray, List.set_cons_zero, List.set_cons_succ]
        refine wpAnyH_take (i := 21) (oi := { dst := some 36, op := _, type := _, pos := _, after := _, guard := _ }) (v := undef) rfl (by kernel_rfl) (by kernel_rfl) (by kernel_rfl) (fun _ _ _ h => h) (Or.inr ⟨by rfl, rfl⟩) hHeld ?_
        try simp only [Act.put, List.setIfInBounds_toArray, List.set_cons_zero, List.set_cons_succ]
        refine wpAnyH_take (i := 22) (oi := { dst := some 37, op := _, type := _, pos := _, after := _, guard := _ }) (v := undef) rfl (by kernel_rfl) (by kernel_rfl) (by kernel_rfl) (fun _ _ _ h => h) (Or.inr ⟨by rfl, rfl⟩) hHeld ?_
        try simp only [Act.put, List.setIfInBounds_toArray, List.set_cons_zero, List.set_cons_succ]
        refine wpAnyH_take (i := 23) (oi := { dst := some 38, op := _, type := _, pos := _, after := _, guard := _ }) (v := undef) rfl (by kernel_rfl) (by kernel_rfl) (by kernel_rfl) (fun _ _ _ h => h) (Or.inr ⟨by rfl, rfl⟩) hHeld ?_
        try simp only [Act.put, List.setIfInBounds_toArray, List.set_cons_zero, List.set_cons_succ]
        refine wpAnyH_take (i := 24) (oi := { dst := some 39, op := _, type := _, pos := _, after := _, guard := _ }) (v := .bool false) rfl (by kernel_rfl) (by kernel_rfl) (by kernel_rfl) (fun _ _ _ h => h) (Or.inl ⟨by rfl, ?_⟩) hHeld ?_
        · intro w hSw
          (try obtain ⟨q0, q1, q2⟩ := hSw)
          go_simp
        try simp only [Act.put, List.setIfInBounds_toArray, List.set_cons_zero, List.set_cons_succ]
        refine wpAnyH_take (i := 25) (oi := { dst := some 40, op := _, type := _, pos := _, after := _, guard := _ }) (v := .bool false) rfl (by kernel_rfl) (by kernel_rfl) (by kernel_rfl) (fun _ _ _ h => h) (Or.inl ⟨by rfl, ?_⟩) hHeld ?_
        · intro w hSw
          (try obtain ⟨q0, q1, q2⟩ := hSw)
          go_simp
        try simp only [Act.put, List.setIfInBounds_toArray, List.set_cons_zero, List.set_cons_succ]
        refine wpAnyH_take (i := 26) (oi := { dst := some 41, op := _, type := _, pos := _, after := _, guard := _ }) (v := .bool false) rfl (by kernel_rfl) (by kernel_rfl) (by kernel_rfl) (fun _ _ _ h => h) (Or.inl ⟨by rfl, ?_⟩) hHeld ?_
        · intro w hSw
          (try obtain ⟨q0, q1, q2⟩ := hSw)
          go_simp
        try simp only [Act.put, List.setIfInBounds_toArray, List.set_cons_zero, List.set_cons_succ]
        refine wpAnyH_take (i := 27) (oi := { dst := some 42, op := _, type := _, pos := _, after := _, guard := _ }) (v := .pointer (some ⟨b2, 0, none⟩)) rfl (by kernel_rfl) (by kernel_rfl) (by kernel_rfl) (fun _ _ _ h => h) (Or.inl ⟨by rfl, ?_⟩) hHeld ?_
        · intro w hSw
          (try obtain ⟨q0, q1, q2⟩ := hSw)
          go_simp
        try simp only [Act.put, List.setIfInBounds_toArray, List.set_cons_zero, List.set_cons_succ]
        refine wpAnyH_take (i := 28) (oi := { dst := some 43, op := _, type := _, pos := _, after := _, guard := _ }) (v := .int .i64 0) rfl (by kernel_rfl) (by kernel_rfl) (by kernel_rfl) (fun _ _ _ h => h) (Or.inl ⟨by rfl, ?_⟩) hHeld ?_
        · intro w hSw
          (try obtain ⟨q0, q1, q2⟩ := hSw)
          go_simp
        try simp only [Act.put, List.setIfInBounds_toArray, List.set_cons_zero, List.set_cons_succ]
        refine wpAnyH_take (i := 29) (oi := { dst := some 44, op := _, type := _, pos := _, after := _, guard := _ }) (v := .bool true) rfl (by kernel_rfl) (by kernel_rfl) (by kernel_rfl) (fun _ _ _ h => h) (Or.inl ⟨by rfl, ?_⟩) hHeld ?_
        · intro w hSw
          (try obtain ⟨q0, q1, q2⟩ := hSw)
          go_simp
        try simp only [Act.put, List.setIfInBounds_toArray, List.set_cons_zero, List.set_cons_succ]
        refine wpAnyH_take (i := 30) (oi := { dst := some 45, op := _, type := _, pos := _, after := _, guard := _ }) (v := .bool true) rfl (by kernel_rfl) (by kernel_rfl) (by kernel_rfl) (fun _ _ _ h => h) (Or.inl ⟨by rfl, ?_⟩) hHeld ?_
        · intro w hSw
          (try obtain ⟨q0, q1, q2⟩ := hSw)
          go_simp
        try simp only [Act.put, List.setIfInBounds_toArray, List.set_cons_zero, List.set_cons_succ]
        refine wpAnyH_take (i := 31) (oi := { dst := some 46, op := _, type := _, pos := _, after := _, guard := _ }) (v := .pointer (some ⟨b2, 1, none⟩)) rfl (by kernel_rfl) (by kernel_rfl) (by kernel_rfl) (fun _ _ _ h => h) (Or.inl ⟨by rfl, ?_⟩) hHeld ?_
        · intro w hSw
          (try obtain ⟨q0, q1, q2⟩ := hSw)
          go_simp
        try simp only [Act.put, List.setIfInBounds_toArray, List.set_cons_zero, List.set_cons_succ]
        refine wpAnyH_take (i := 32) (oi := { dst := some 47, op := _, type := _, pos := _, after := _, guard := _ }) (v := .slice lv es.length lc) rfl (by kernel_rfl) (by kernel_rfl) (by kernel_rfl) (fun _ _ _ h => h) (Or.inl ⟨by rfl, ?_⟩) hHeld ?_
        · intro w hSw
          (try obtain ⟨q0, q1, q2⟩ := hSw)
          go_simp
        try simp only [Act.put, List.setIfInBounds_toArray, List.set_cons_zero, List.set_cons_succ]
        refine wpAnyH_take (i := 33) (oi := { dst := some 48, op := _, type := _, pos := _, after := _, guard := _ }) (v := .int .i64 es.length) rfl (by kernel_rfl) (by kernel_rfl) (by kernel_rfl) (fun _ _ _ h => h) (Or.inl ⟨by rfl, ?_⟩) hHeld ?_
        · intro w hSw
          (try obtain ⟨q0, q1, q2⟩ := hSw)
          go_simp
        try simp only [Act.put, List.setIfInBounds_toArray, List.set_cons_zero, List.set_cons_succ]
        refine wpAnyH_take (i := 34) (oi := { dst := some 49, op := _, type := _, pos := _, after := _, guard := _ }) (v := .slice dv ys.length dc) rfl (by kernel_rfl) (by kernel_rfl) (by kernel_rfl) (fun _ _ _ h => h) (Or.inl ⟨by rfl, ?_⟩) hHeld ?_
        · intro w hSw
          (try obtain ⟨q0, q1, q2⟩ := hSw)
          go_simp
        try simp only [Act.put, List.setIfInBounds_toArray, List.set_cons_zero, List.set_cons_succ]
        refine wpAnyH_ready (rs := [35]) (by kernel_rfl) (by simp) ?_
        refine AllReadyH.cons rfl (fun K hK => ?_) AllReadyH.nil
        go_simp
        refine (HS2.out _ BB3.out).mono ?_
        rintro r w4 ⟨xv, xc, rfl, hb4⟩
        have BB4 := hide (below_next BB3.out hb4)
        clear hb4
        go_wp2_with fail
        refine hK.out _ _ (KC.out _ BB4.out) (fun hHeld => ?_)
        clear hK K
        try simp only [Act.put, List.setIfInBounds_toArray, List.set_cons_zero, List.set_cons_succ]
        refine wpAnyH_take (i := 36) (oi := { dst := some 51, op := _, type := _, pos := _, after := _, guard := _ }) (v := .slice xv es.length xc) rfl (by kernel_rfl) (by kernel_rfl) (by kernel_rfl) (fun _ _ _ h => h) (Or.inl ⟨by rfl, ?_⟩) hHeld ?_
        · intro w hSw
          (try obtain ⟨q0, q1, q2⟩ := hSw)
          go_simp
        try simp only [Act.put, List.setIfInBounds_toArray, List.set_cons_zero, List.set_cons_succ]
        refine wpAnyH_take (i := 37) (oi := { dst := some 52, op := _, type := _, pos := _, after := _, guard := _ }) (v := .int .i64 es.length) rfl (by kernel_rfl) (by kernel_rfl) (by kernel_rfl) (fun _ _ _ h => h) (Or.inl ⟨by rfl, ?_⟩) hHeld ?_
        · intro w hSw
          (try obtain ⟨q0, q1, q2⟩ := hSw)
          go_simp
        try simp only [Act.put, List.setIfInBounds_toArray, List.set_cons_zero, List.set_cons_succ]
        refine wpAnyH_take (i := 38) (oi := { dst := some 53, op := _, type := _, pos := _, after := _, guard := _ }) (v := .bool false) rfl (by kernel_rfl) (by kernel_rfl) (by kernel_rfl) (fun _ _ _ h => h) (Or.inl ⟨by rfl, ?_⟩) hHeld ?_
        · intro w hSw
          (try obtain ⟨q0, q1, q2⟩ := hSw)
          go_simp
        try simp only [Act.put, List.setIfInBounds_toArray, List.set_cons_zero, List.set_cons_succ]
        refine wpAnyH_take (i := 39) (oi := { dst := some 54, op := _, type := _, pos := _, after := _, guard := _ }) (v := .bool false) rfl (by kernel_rfl) (by kernel_rfl) (by kernel_rfl) (fun _ _ _ h => h) (Or.inl ⟨by rfl, ?_⟩) hHeld ?_
        · intro w hSw
          (try obtain ⟨q0, q1, q2⟩ := hSw)
          go_simp
        try simp only [Act.put, List.setIfInBounds_toArray, List.set_cons_zero, List.set_cons_succ]
        refine wpAnyH_take (i := 40) (oi := { dst := some 55, op := _, type := _, pos := _, after := _, guard := _ }) (v := .bool false) rfl (by kernel_rfl) (by kernel_rfl) (by kernel_rfl) (fun _ _ _ h => h) (Or.inl ⟨by rfl, ?_⟩) hHeld ?_
        · intro w hSw
          (try obtain ⟨q0, q1, q2⟩ := hSw)
          go_simp
        try simp only [Act.put, List.setIfInBounds_toArray, List.set_cons_zero, List.set_cons_succ]
        refine wpAnyH_done (by kernel_rfl) ?_ _
        go_wp2_with fail
        go_meet
        case rel => exact ⟨rfl, BB4⟩
        -- region 5, read, end
      · generalize layList T = DL at *
        generalize layCode T = F at *
        have hz2 : (F != 0) = true := by simp; exact hc
        have hz3 : (F == 0) = false := by simpa using hc
        have hff : (F != F) = false := by simp
        clear hc
        have KC : Hid (∀ w' : World, Below W2.heap.size W2 w' → w'.cell? ⟨b2, 0, none⟩ = some (.int .i64 F)) := hide (fun w' hb' => (X2.out.below hb').1.1)
        have q0 := KC.out W2 (Below.refl _ _)
        have hfd : ∀ (w : World) (v : Value), (Instr.field 27 (.agg #[.int .i64 F, v]) 0).run Tryz.prog w = .ok (.int .i64 F) w := fun _ _ => by kernel_rfl
        -- region 5, not read
        refine wp_region_held_drew (S := fun w' => w'.cell? ⟨b2, 0, none⟩ = some (.int .i64 F)) (by kernel_rfl) (KC.out _ (Below.refl _ _).drew) (fun hHeld => ?_)
        change wpAnyH _ _ _ _ _ _ (Array.replicate _ false) _ _
        refine wpAnyH_take (i := 0) (oi := { dst := some 15, op := _, type := _, pos := _, after := _, guard := _ }) (v := .pointer (some ⟨b2, 0, none⟩)) rfl (by kernel_rfl) (by kernel_rfl) (by kernel_rfl) (fun _ _ _ h => h) (Or.inl ⟨by rfl, ?_⟩) hHeld ?_
        · intro w hSw
          have q0 := hSw
          go_simp
        try simp only [Act.put, List.setIfInBounds_toArray, List.set_cons_zero, List.set_cons_succ]
        refine wpAnyH_take (i := 1) (oi := { dst := some 16, op := _, type := _, pos := _, after := _, guard := _ }) (v := .int .i64 F) rfl (by kernel_rfl) (by kernel_rfl) (by kernel_rfl) (fun _ _ _ h => h) (Or.inl ⟨by rfl, ?_⟩) hHeld ?_
        · intro w hSw
          have q0 := hSw
          go_simp
        try simp only [Act.put, List.setIfInBounds_toArray, List.set_cons_zero, List.set_cons_succ]
        refine wpAnyH_take (i := 2) (oi := { dst := some 17, op := _, type := _, pos := _, after := _, guard := _ }) (v := .bool false) rfl (by kernel_rfl) (by kernel_rfl) (by kernel_rfl) (fun _ _ _ h => h) (Or.inl ⟨by rfl, ?_⟩) hHeld ?_
        · intro w hSw
          have q0 := hSw
          go_simp
        try simp only [Act.put, List.setIfInBounds_toArray, List.set_cons_zero, List.set_cons_succ]
        refine wpAnyH_take (i := 3) (oi := { dst := some 18, op := _, type := _, pos := _, after := _, guard := _ }) (v := .bool false) rfl (by kernel_rfl) (by kernel_rfl) (by kernel_rfl) (fun _ _ _ h => h) (Or.inl ⟨by rfl, ?_⟩) hHeld ?_
        · intro w hSw
          have q0 := hSw
          go_simp
        try simp only [Act.put, List.setIfInBounds_toArray, List.set_cons_zero, List.set_cons_succ]
        refine wpAnyH_take (i := 4) (oi := { dst := some 19, op := _, type := _, pos := _, after := _, guard := _ }) (v := undef) rfl (by kernel_rfl) (by kernel_rfl) (by kernel_rfl) (fun _ _ _ h => h) (Or.inr ⟨by rfl, rfl⟩) hHeld ?_
        try simp only [Act.put, List.setIfInBounds_toArray, List.set_cons_zero, List.set_cons_succ]
        refine wpAnyH_take (i := 5) (oi := { dst := some 20, op := _, type := _, pos := _, after := _, guard := _ }) (v := undef) rfl (by kernel_rfl) (by kernel_rfl) (by kernel_rfl) (fun _ _ _ h => h) (Or.inr ⟨by rfl, rfl⟩) hHeld ?_
        try simp only [Act.put, List.setIfInBounds_toArray, List.set_cons_zero, List.set_cons_succ]
        refine wpAnyH_take (i := 6) (oi := { dst := some 21, op := _, type := _, pos := _, after := _, guard := _ }) (v := undef) rfl (by kernel_rfl) (by kernel_rfl) (by kernel_rfl) (fun _ _ _ h => h) (Or.inr ⟨by rfl, rfl⟩) hHeld ?_
        try simp only [Act.put, List.setIfInBounds_toArray, List.set_cons_zero, List.set_cons_succ]
        refine wpAnyH_take (i := 7) (oi := { dst := some 22, op := _, type := _, pos := _, after := _, guard := _ }) (v := undef) rfl (by kernel_rfl) (by kernel_rfl) (by kernel_rfl) (fun _ _ _ h => h) (Or.inr ⟨by rfl, rfl⟩) hHeld ?_
        try simp only [Act.put, List.setIfInBounds_toArray, List.set_cons_zero, List.set_cons_succ]
        refine wpAnyH_take (i := 8) (oi := { dst := some 23, op := _, type := _, pos := _, after := _, guard := _ }) (v := undef) rfl (by kernel_rfl) (by kernel_rfl) (by kernel_rfl) (fun _ _ _ h => h) (Or.inr ⟨by rfl, rfl⟩) hHeld ?_
        try simp only [Act.put, List.setIfInBounds_toArray, List.set_cons_zero, List.set_cons_succ]
        refine wpAnyH_take (i := 9) (oi := { dst := some 24, op := _, type := _, pos := _, after := _, guard := _ }) (v := undef) rfl (by kernel_rfl) (by kernel_rfl) (by kernel_rfl) (fun _ _ _ h => h) (Or.inr ⟨by rfl, rfl⟩) hHeld ?_
        try simp only [Act.put, List.setIfInBounds_toArray, List.set_cons_zero, List.set_cons_succ]
        refine wpAnyH_take (i := 10) (oi := { dst := some 25, op := _, type := _, pos := _, after := _, guard := _ }) (v := undef) rfl (by kernel_rfl) (by kernel_rfl) (by kernel_rfl) (fun _ _ _ h => h) (Or.inr ⟨by rfl, rfl⟩) hHeld ?_
        try simp only [Act.put, List.setIfInBounds_toArray, List.set_cons_zero, List.set_cons_succ]
        refine wpAnyH_take (i := 11) (oi := { dst := some 26, op := _, type := _, pos := _, after := _, guard := _ }) (v := undef) rfl (by kernel_rfl) (by kernel_rfl) (by kernel_rfl) (fun _ _ _ h => h) (Or.inr ⟨by rfl, rfl⟩) hHeld ?_
        try simp only [Act.put, List.setIfInBounds_toArray, List.set_cons_zero, List.set_cons_succ]
        refine wpAnyH_take (i := 12) (oi := { dst := some 27, op := _, type := _, pos := _, after := _, guard := _ }) (v := .bool false) rfl (by kernel_rfl) (by kernel_rfl) (by kernel_rfl) (fun _ _ _ h => h) (Or.inl ⟨by rfl, ?_⟩) hHeld ?_
        · intro w hSw
          have q0 := hSw
          go_simp
        try simp only [Act.put, List.setIfInBounds_toArray, List.set_cons_zero, List.set_cons_succ]
        refine wpAnyH_take (i := 13) (oi := { dst := some 28, op := _, type := _, pos := _, after := _, guard := _ }) (v := .bool false) rfl (by kernel_rfl) (by kernel_rfl) (by kernel_rfl) (fun _ _ _ h => h) (Or.inl ⟨by rfl, ?_⟩) hHeld ?_
        · intro w hSw
          have q0 := hSw
          go_simp
        try simp only [Act.put, List.setIfInBounds_toArray, List.set_cons_zero, List.set_cons_succ]
        refine wpAnyH_take (i := 14) (oi := { dst := some 29, op := _, type := _, pos := _, after := _, guard := _ }) (v := .pointer (some ⟨b2, 0, none⟩)) rfl (by kernel_rfl) (by kernel_rfl) (by kernel_rfl) (fun _ _ _ h => h) (Or.inl ⟨by rfl, ?_⟩) hHeld ?_
        · intro w hSw
          have q0 := hSw
          go_simp
        try simp only [Act.put, List.setIfInBounds_toArray, List.set_cons_zero, List.set_cons_succ]
        refine wpAnyH_take (i := 15) (oi := { dst := some 30, op := _, type := _, pos := _, after := _, guard := _ }) (v := .int .i64 F) rfl (by kernel_rfl) (by kernel_rfl) (by kernel_rfl) (fun _ _ _ h => h) (Or.inl ⟨by rfl, ?_⟩) hHeld ?_
        · intro w hSw
          have q0 := hSw
          go_simp
        try simp only [Act.put, List.setIfInBounds_toArray, List.set_cons_zero, List.set_cons_succ]
        refine wpAnyH_take (i := 16) (oi := { dst := some 31, op := _, type := _, pos := _, after := _, guard := _ }) (v := .bool true) rfl (by kernel_rfl) (by kernel_rfl) (by kernel_rfl) (fun _ _ _ h => h) (Or.inl ⟨by rfl, ?_⟩) hHeld ?_
        · intro w hSw
          have q0 := hSw
          go_simp
        try simp only [Act.put, List.setIfInBounds_toArray, List.set_cons_zero, List.set_cons_succ]
        refine wpAnyH_take (i := 17) (oi := { dst := some 32, op := _, type := _, pos := _, after := _, guard := _ }) (v := .bool true) rfl (by kernel_rfl) (by kernel_rfl) (by kernel_rfl) (fun _ _ _ h => h) (Or.inl ⟨by rfl, ?_⟩) hHeld ?_
        · intro w hSw
          have q0 := hSw
          go_simp
        try simp only [Act.put, List.setIfInBounds_toArray, List.set_cons_zero, List.set_cons_succ]
        refine wpAnyH_take (i := 18) (oi := { dst := some 33, op := _, type := _, pos := _, after := _, guard := _ }) (v := .slice dv ys.length dc) rfl (by kernel_rfl) (by kernel_rfl) (by kernel_rfl) (fun _ _ _ h => h) (Or.inl ⟨by rfl, ?_⟩) hHeld ?_
        · intro w hSw
          have q0 := hSw
          go_simp
        try simp only [Act.put, List.setIfInBounds_toArray, List.set_cons_zero, List.set_cons_succ]
        refine wpAnyH_take (i := 21) (oi := { dst := some 36, op := _, type := _, pos := _, after := _, guard := _ }) (v := .pointer (some ⟨b2, 0, none⟩)) rfl (by kernel_rfl) (by kernel_rfl) (by kernel_rfl) (fun _ _ _ h => h) (Or.inl ⟨by rfl, ?_⟩) hHeld ?_
        · intro w hSw
          have q0 := hSw
          go_simp
        try simp only [Act.put, List.setIfInBounds_toArray, List.set_cons_zero, List.set_cons_succ]
        refine wpAnyH_take (i := 22) (oi := { dst := some 37, op := _, type := _, pos := _, after := _, guard := _ }) (v := .int .i64 F) rfl (by kernel_rfl) (by kernel_rfl) (by kernel_rfl) (fun _ _ _ h => h) (Or.inl ⟨by rfl, ?_⟩) hHeld ?_
        · intro w hSw
          have q0 := hSw
          go_simp
        try simp only [Act.put, List.setIfInBounds_toArray, List.set_cons_zero, List.set_cons_succ]
        refine wpAnyH_ready (rs := [19]) (by kernel_rfl) (by simp) ?_
        refine AllReadyH.cons rfl (fun K hK => ?_) AllReadyH.nil
        go_simp
        refine (HSP.out _ (below_next BW2.out (Below.refl _ _).drew)).mono ?_
        rintro r w5 ⟨xv5, xc5, rfl, hb5⟩
        have BB5 := hide ((Below.refl W2.heap.size W2).drew.trans hb5)
        clear hb5
        go_wp2_with fail
        refine hK.out _ _ (KC.out _ BB5.out) (fun hHeld => ?_)
        clear hK K
        try simp only [Act.put, List.setIfInBounds_toArray, List.set_cons_zero, List.set_cons_succ]
        refine wpAnyH_take (i := 20) (oi := { dst := some 35, op := _, type := _, pos := _, after := _, guard := _ }) (v := .int .i64 F) rfl (by kernel_rfl) (by kernel_rfl) (by kernel_rfl) (fun _ _ _ h => h) (Or.inl ⟨by rfl, ?_⟩) hHeld ?_
        · intro w hSw
          have q0 := hSw
          go_simp
        try simp only [Act.put, List.setIfInBounds_toArray, List.set_cons_zero, List.set_cons_succ]
        refine wpAnyH_take (i := 23) (oi := { dst := some 38, op := _, type := _, pos := _, after := _, guard := _ }) (v := .bool false) rfl (by kernel_rfl) (by kernel_rfl) (by kernel_rfl) (fun _ _ _ h => h) (Or.inl ⟨by rfl, ?_⟩) hHeld ?_
        · intro w hSw
          have q0 := hSw
          go_simp
        try simp only [Act.put, List.setIfInBounds_toArray, List.set_cons_zero, List.set_cons_succ]
        refine wpAnyH_take (i := 24) (oi := { dst := some 39, op := _, type := _, pos := _, after := _, guard := _ }) (v := .bool false) rfl (by kernel_rfl) (by kernel_rfl) (by kernel_rfl) (fun _ _ _ h => h) (Or.inl ⟨by rfl, ?_⟩) hHeld ?_
        · intro w hSw
          have q0 := hSw
          go_simp
        try simp only [Act.put, List.setIfInBounds_toArray, List.set_cons_zero, List.set_cons_succ]
        refine wpAnyH_take (i := 25) (oi := { dst := some 40, op := _, type := _, pos := _, after := _, guard := _ }) (v := .bool false) rfl (by kernel_rfl) (by kernel_rfl) (by kernel_rfl) (fun _ _ _ h => h) (Or.inl ⟨by rfl, ?_⟩) hHeld ?_
        · intro w hSw
          have q0 := hSw
          go_simp
        try simp only [Act.put, List.setIfInBounds_toArray, List.set_cons_zero, List.set_cons_succ]
        refine wpAnyH_take (i := 26) (oi := { dst := some 41, op := _, type := _, pos := _, after := _, guard := _ }) (v := .bool false) rfl (by kernel_rfl) (by kernel_rfl) (by kernel_rfl) (fun _ _ _ h => h) (Or.inl ⟨by rfl, ?_⟩) hHeld ?_
        · intro w hSw
          have q0 := hSw
          go_simp
        try simp only [Act.put, List.setIfInBounds_toArray, List.set_cons_zero, List.set_cons_succ]
        refine wpAnyH_take (i := 27) (oi := { dst := some 42, op := _, type := _, pos := _, after := _, guard := _ }) (v := .pointer (some ⟨b2, 0, none⟩)) rfl (by kernel_rfl) (by kernel_rfl) (by kernel_rfl) (fun _ _ _ h => h) (Or.inl ⟨by rfl, ?_⟩) hHeld ?_
        · intro w hSw
          have q0 := hSw
          go_simp
        try simp only [Act.put, List.setIfInBounds_toArray, List.set_cons_zero, List.set_cons_succ]
        refine wpAnyH_take (i := 28) (oi := { dst := some 43, op := _, type := _, pos := _, after := _, guard := _ }) (v := .int .i64 F) rfl (by kernel_rfl) (by kernel_rfl) (by kernel_rfl) (fun _ _ _ h => h) (Or.inl ⟨by rfl, ?_⟩) hHeld ?_
        · intro w hSw
          have q0 := hSw
          go_simp
        try simp only [Act.put, List.setIfInBounds_toArray, List.set_cons_zero, List.set_cons_succ]
        refine wpAnyH_take (i := 29) (oi := { dst := some 44, op := _, type := _, pos := _, after := _, guard := _ }) (v := .bool false) rfl (by kernel_rfl) (by kernel_rfl) (by kernel_rfl) (fun _ _ _ h => h) (Or.inl ⟨by rfl, ?_⟩) hHeld ?_
        · intro w hSw
          have q0 := hSw
          go_simp
        try simp only [Act.put, List.setIfInBounds_toArray, List.set_cons_zero, List.set_cons_succ]
        refine wpAnyH_take (i := 30) (oi := { dst := some 45, op := _, type := _, pos := _, after := _, guard := _ }) (v := .bool false) rfl (by kernel_rfl) (by kernel_rfl) (by kernel_rfl) (fun _ _ _ h => h) (Or.inl ⟨by rfl, ?_⟩) hHeld ?_
        · intro w hSw
          have q0 := hSw
          go_simp
        try simp only [Act.put, List.setIfInBounds_toArray, List.set_cons_zero, List.set_cons_succ]
        refine wpAnyH_take (i := 31) (oi := { dst := some 46, op := _, type := _, pos := _, after := _, guard := _ }) (v := undef) rfl (by kernel_rfl) (by kernel_rfl) (by kernel_rfl) (fun _ _ _ h => h) (Or.inr ⟨by rfl, rfl⟩) hHeld ?_
        try simp only [Act.put, List.setIfInBounds_toArray, List.set_cons_zero, List.set_cons_succ]
        refine wpAnyH_take (i := 32) (oi := { dst := some 47, op := _, type := _, pos := _, after := _, guard := _ }) (v := undef) rfl (by kernel_rfl) (by kernel_rfl) (by kernel_rfl) (fun _ _ _ h => h) (Or.inr ⟨by rfl, rfl⟩) hHeld ?_
        try simp only [Act.put, List.setIfInBounds_toArray, List.set_cons_zero, List.set_cons_succ]
        refine wpAnyH_take (i := 33) (oi := { dst := some 48, op := _, type := _, pos := _, after := _, guard := _ }) (v := undef) rfl (by kernel_rfl) (by kernel_rfl) (by kernel_rfl) (fun _ _ _ h => h) (Or.inr ⟨by rfl, rfl⟩) hHeld ?_
        try simp only [Act.put, List.setIfInBounds_toArray, List.set_cons_zero, List.set_cons_succ]
        refine wpAnyH_take (i := 34) (oi := { dst := some 49, op := _, type := _, pos := _, after := _, guard := _ }) (v := undef) rfl (by kernel_rfl) (by kernel_rfl) (by kernel_rfl) (fun _ _ _ h => h) (Or.inr ⟨by rfl, rfl⟩) hHeld ?_
        try simp only [Act.put, List.setIfInBounds_toArray, List.set_cons_zero, List.set_cons_succ]
        refine wpAnyH_take (i := 35) (oi := { dst := some 50, op := _, type := _, pos := _, after := _, guard := _ }) (v := undef) rfl (by kernel_rfl) (by kernel_rfl) (by kernel_rfl) (fun _ _ _ h => h) (Or.inr ⟨by rfl, rfl⟩) hHeld ?_
        try simp only [Act.put, List.setIfInBounds_toArray, List.set_cons_zero, List.set_cons_succ]
        refine wpAnyH_take (i := 36) (oi := { dst := some 51, op := _, type := _, pos := _, after := _, guard := _ }) (v := undef) rfl (by kernel_rfl) (by kernel_rfl) (by kernel_rfl) (fun _ _ _ h => h) (Or.inr ⟨by rfl, rfl⟩) hHeld ?_
        try simp only [Act.put, List.setIfInBounds_toArray, List.set_cons_zero, List.set_cons_succ]
        refine wpAnyH_take (i := 37) (oi := { dst := some 52, op := _, type := _, pos := _, after := _, guard := _ }) (v := undef) rfl (by kernel_rfl) (by kernel_rfl) (by kernel_rfl) (fun _ _ _ h => h) (Or.inr ⟨by rfl, rfl⟩) hHeld ?_
        try simp only [Act.put, List.setIfInBounds_toArray, List.set_cons_zero, List.set_cons_succ]
        refine wpAnyH_take (i := 38) (oi := { dst := some 53, op := _, type := _, pos := _, after := _, guard := _ }) (v := undef) rfl (by kernel_rfl) (by kernel_rfl) (by kernel_rfl) (fun _ _ _ h => h) (Or.inr ⟨by rfl, rfl⟩) hHeld ?_
        try simp only [Act.put, List.setIfInBounds_toArray, List.set_cons_zero, List.set_cons_succ]
        refine wpAnyH_take (i := 39) (oi := { dst := some 54, op := _, type := _, pos := _, after := _, guard := _ }) (v := .bool false) rfl (by kernel_rfl) (by kernel_rfl) (by kernel_rfl) (fun _ _ _ h => h) (Or.inl ⟨by rfl, ?_⟩) hHeld ?_
        · intro w hSw
          have q0 := hSw
          go_simp
        try simp only [Act.put, List.setIfInBounds_toArray, List.set_cons_zero, List.set_cons_succ]
        refine wpAnyH_take (i := 40) (oi := { dst := some 55, op := _, type := _, pos := _, after := _, guard := _ }) (v := .bool false) rfl (by kernel_rfl) (by kernel_rfl) (by kernel_rfl) (fun _ _ _ h => h) (Or.inl ⟨by rfl, ?_⟩) hHeld ?_
        · intro w hSw
          have q0 := hSw
          go_simp
        try simp only [Act.put, List.setIfInBounds_toArray, List.set_cons_zero, List.set_cons_succ]
        refine wpAnyH_done (by kernel_rfl) ?_ _
        go_wp2_with fail
        go_meet
        case rel => exact ⟨rfl, BB5⟩
        -- region 5, not read, end
    case rest =>
      obtain ⟨rfl, BC⟩ := hcut
      have B3 := hide (below_next B2.out BC.out)
      clear X2 R2 HLZ HSP HCV BW2 BC RD B1 B2
      go_wp2_with fail
      refine (drawPackLayer_any a0 cap0 zs _ (HR.out.below B3.out) HU.out (by omega)).mono ?_
      rintro r w4 ⟨L, av, cv, rfl, hgd, hel, hsm, hrl, hcap, hb4⟩
      have HGd := hide hgd.good
      have HS := hide hsm
      have RL := hide hrl
      have B4 := hide (below_next B3.out hb4)
      clear hgd hsm hrl hb4 B3 HR HU
      have HPK : Hid (Calls Tryz.prog 7 #[.slice av L.length cv] w4 fun r w' => ∃ pv pc, r = .returned (.agg #[.int .i64 (layFaultP L), .slice pv (numsB (layText L)).length pc]) ∧ RdB w' pv (numsB (layText L)) ∧ Below w4.heap.size w4 w') := hide (by
        refine (implPackLayer_any av cv L.length L w4 RL.out rfl (by omega) HS.out).mono (fun r w' ⟨pv, pc, h2, h3, h4⟩ => ⟨pv, pc, ?_, h3, h4⟩)
        rw [numsB_len]; exact h2)
      go_wp2_with fail
      refine HPK.out.mono ?_
      rintro r w5 ⟨pv, pc, rfl, hrp, hb5⟩
      have A5 := hide (below_alloc w5 (.cells #[.int .i64 (layFaultP L), .slice pv (numsB (layText L)).length pc] 30))
      have X5 := hide (Box.new w5 (.int .i64 (layFaultP L)) (.slice pv (numsB (layText L)).length pc) 30)
      have BW5 := hide (below_next hb5 A5.out)
      have B5 := hide (below_next B4.out BW5.out)
      have RL5 := hide (RL.out.below BW5.out)
      have RP5 := hide (hrp.below A5.out)
      clear hrp hb5 A5 HPK RL B4 BW5
      by_cases hc : layFaultP L = 0
      · have hRi := right_P.1 hc
        have HRi := hide hRi
        have HTB := hide (show textB (numsB (layText L)) = packL L by rw [textB_nums, layText_good hc])
        have HNL := hide (show (numsB (layText L)).length = (packL L).length by rw [numsB_len, layText_good hc])
        have hpl := packL_len hRi
        rw [hc] at X5
        rw [hc]
        rw [hc] at B5 RL5 RP5
        clear hc hRi
        generalize numsB (layText L) = ns at *
        obtain ⟨⟨t0, t1⟩, t2, t3⟩ := X5.out
        go_wp2_with fail
        clear t0 t1 t2 t3
        generalize w5.alloc (.cells #[.int .i64 0, .slice pv ns.length pc] 30) = W5 at *
        generalize w5.heap.size = b5 at *
        go_loopw [7] (fun i wr => ∃ k : Nat, k ≤ L.length ∧ i = .int .i64 k ∧ Hid (Below W5.heap.size W5 wr)) (fun i _ => L.length - (intOf i).toNat)
        case atStart => exact ⟨0, Nat.zero_le _, rfl, hide (Below.refl _ _)⟩
        case round =>
          obtain ⟨k, hk, rfl, HW⟩ := hrel
          by_cases hlt : k < L.length
          · obtain ⟨bl, ol, e, x, cc, hav, hbl, he, c0, c1, c2, c3, hr⟩ := (RL5.out.below HW.out).at hlt
            subst hav
            have HXM := hide (List.mem_of_getElem? he)
            have HXI := hide he
            have hse := HS.out e HXM.out
            have hfe := right_fits HRi.out e HXM.out
            have HET := hide (implEntryText_any e x cc wr hr hse.1 hse.2)
            rw [HRi.out.ent e HXM.out, entText_good (HRi.out.ent e HXM.out)] at HET
            obtain ⟨e1, e2⟩ := parE_so (parE_iff.2 ⟨hfe, rfl⟩)
            have htl : (textE e).length ≤ 1048576 := by
              have h3 : (textE e).length ≤ (packL L).length := by
                obtain ⟨a, b, hab⟩ := List.append_of_mem HXM.out
                rw [hab]
                simp [packL]
                omega
              omega
            have HPE : Hid (∀ u' : World, Below W5.heap.size W5 u' → Calls Tryz.prog 14 #[.string (str (textE e))] u' (ResE 0 [e] u')) := hide (fun u' hb' => by
              have h1 := implParseEntry_any (textE e) u vp u' htl (HGB.out _ (below_next B5.out hb'))
              rw [e1, e2] at h1
              exact h1)
            clear he hr hfe e1 e2 htl
            generalize textE e = TE at *
            have hk0 : (0 : Int) ≤ (k : Int) := by omega
            have hk1 : (k : Int) < (L.length : Int) := by omega
            go_wp2_with fail
            refine HET.out.mono ?_
            rintro r w6 ⟨rfl, hb6⟩
            have A6 := hide (below_next (below_next HW.out hb6) (below_alloc w6 (.cells #[.int .i64 0, .string (str TE)] 35)))
            have X6 := hide (Box.new w6 (.int .i64 0) (.string (str TE)) 35)
            clear hb6 HET c0 c1 c2 c3
            obtain ⟨⟨t0, t1⟩, t2, t3⟩ := X6.out
            go_wp2_with fail
            clear t0 t1 t2 t3
            generalize w6.alloc (.cells #[.int .i64 0, .string (str TE)] 35) = W6 at *
            generalize w6.heap.size = b6 at *
            have KC : Hid (∀ w' : World, Below W6.heap.size W6 w' → w'.cell? ⟨b6, 0, none⟩ = some (.int .i64 0) ∧ w'.cell? ⟨b6, 1, none⟩ = some (.string (str TE))) := hide (fun w' hb' => ⟨(X6.out.below hb').1.1, (X6.out.below hb').1.2⟩)
            have RS := hide (RL5.out.one HXI.out)
            have HSL : Hid (∀ (u' : World) (sv : Option Addr) (sc dd : Nat), RdE u' sv [e] → Below W6.heap.size W6 u' → Calls Tryz.prog 13 #[.slice sv 1 sc, .slice (some ⟨bl, ol + k * 4, none⟩) 1 dd] u' fun r w' => r = .returned (.bool true) ∧ Below u'.heap.size u' w') := hide (fun u' sv sc dd hr hu => by
              have h1 := implSameLayers_any sv _ sc dd 1 1 [e] [e] u' hr (RS.out.below (below_next A6.out hu)) rfl rfl (by simp) (by simp) (fun z hz => by simp at hz; subst hz; exact hse) (fun z hz => by simp at hz; subst hz; exact hse)
              rw [decide_eq_true rfl] at h1
              exact h1)
            have HP6 := hide (fun (u' : World) (hb' : Below W6.heap.size W6 u') => HPE.out u' (below_next A6.out hb'))
            have hm2 : (k : Int) ≤ (k : Int) + 1 := by omega
            have hm3 : (k : Int) + 1 ≤ (cv : Int) := by omega
            have hm4 : IntKind.i64.wrap ((k : Int) + 1) = (k : Int) + 1 := by simp [IntKind.wrap, IntKind.signed, IntKind.bits]; omega
            have hm5 : (0 : Int) ≤ (k : Int) + 1 := by omega
            have hfl : ∀ (w : World) (v : Value), (Instr.field 27 (.agg #[.int .i64 0, v]) 1).run Tryz.prog w = .ok v w := fun _ _ => by kernel_rfl
            obtain ⟨q0, q1⟩ := KC.out W6 (Below.refl _ _)
            go_region_held3 (fun w' => w'.cell? ⟨b6, 0, none⟩ = some (.int .i64 0) ∧ w'.cell? ⟨b6, 1, none⟩ = some (.string (str TE))) (first | exact KC.out _ BB2.out | exact KC.out _ BB1.out | go_keep)
              ((first
                | (go_at_call 14; refine (HP6.out _ (Below.refl _ _).drew).mono ?_; rintro r w7 ⟨sv, sc, rfl, hG7, hb7⟩; have BB1 := hide ((Below.refl W6.heap.size W6).drew.trans hb7); have GS := hide hG7.rd; clear hG7 hb7)
                | (go_at_call 13; refine (HSL.out _ sv sc _ GS.out BB1.out).mono ?_; rintro r w8 ⟨rfl, hb8⟩; have BB2 := hide (below_next BB1.out hb8); clear hb8)))
            go_wp2_with fail
            go_roundw
            case rel => exact ⟨k + 1, by omega, by go_num, hide (below_next A6.out BB2.out)⟩
            case measure => simp [intOf]; omega
          · obtain ⟨⟨t0, t1⟩, t2, t3⟩ := X5.out.below HW.out
            have hnm : ns.length ≤ 9223372036854775807 := by have := HNL.out; omega
            have HPL := hide (fun (u' : World) (hb' : Below W5.heap.size W5 u') => implParseLayer_any pv pc ns u vp u' hnm (RP5.out.below hb') (HGB.out _ (below_next B5.out hb')))
            rw [HTB.out] at HPL
            by_cases h6 : 600 < ns.length
            · have h6' : (600 : Int) < (ns.length : Int) := by omega
              obtain ⟨e1, e2⟩ := lay_many (t := packL L) (by have := HNL.out; omega)
              rw [e1, e2] at HPL
              have hfl : ∀ (w : World) (v : Value), (Instr.field 27 (.agg #[.int .i64 2, v]) 0).run Tryz.prog w = .ok (.int .i64 2) w := fun _ _ => by kernel_rfl
              clear e1 e2 h6
              go_wp2_with fail
              refine (HPL.out _ HW.out).mono ?_
              rintro r w6 ⟨qv, qc, rfl, -, hb6⟩
              have B6 := hide (below_next (below_next B5.out HW.out) hb6)
              clear hb6
              go_wp2_with fail
              go_ret
              exact ⟨rfl, B6.out⟩
            · have h6' : ¬ (600 : Int) < (ns.length : Int) := by omega
              obtain ⟨e1, e2⟩ := lay_back HRi.out (by have := HNL.out; omega)
              rw [e1, e2] at HPL
              have hfl : ∀ (w : World) (v : Value), (Instr.field 27 (.agg #[.int .i64 0, v]) 1).run Tryz.prog w = .ok v w := fun _ _ => by kernel_rfl
              have hfl0 : ∀ (w : World) (v : Value), (Instr.field 27 (.agg #[.int .i64 0, v]) 0).run Tryz.prog w = .ok (.int .i64 0) w := fun _ _ => by kernel_rfl
              clear e1 e2 h6
              go_wp2_with fail
              refine (HPL.out _ HW.out).mono ?_
              rintro r w6 ⟨qv, qc, rfl, hG6, hb6⟩
              have BW6 := hide (below_next HW.out hb6)
              have h1 := implSameLayers_any qv av qc cv L.length L.length L L w6 hG6.rd (RL5.out.below BW6.out) rfl rfl (by omega) (by omega) HS.out HS.out
              rw [decide_eq_true rfl] at h1
              have HSL := hide h1
              clear hb6 hG6 h1 t0 t1 t2 t3
              go_wp2_with fail
              refine HSL.out.mono ?_
              rintro r w7 ⟨rfl, hb7⟩
              have BW7 := hide (below_next BW6.out hb7)
              obtain ⟨⟨t0, t1⟩, t2, t3⟩ := X5.out.below BW7.out
              clear hb7 HSL
              go_wp2_with fail
              refine (HPL.out _ BW7.out).mono ?_
              rintro r w8 ⟨qv2, qc2, rfl, -, hb8⟩
              have B8 := hide (below_next (below_next B5.out BW7.out) hb8)
              clear hb8
              go_wp2_with fail
              go_ret
              exact ⟨rfl, B8.out⟩
      · have HLG : Hid (layFault L = layFaultP L) := hide HGd.out.symm
        generalize numsB (layText L) = ns at *
        obtain ⟨F, hF⟩ : ∃ F, F = layFaultP L := ⟨_, rfl⟩
        rw [← hF] at X5 hc B5 RL5 RP5 HLG ⊢
        have HF := hide hF
        clear hF
        have hz2 : (F != 0) = true := by simp; exact hc
        have hff : (F == F) = true := by simp
        clear hc
        obtain ⟨⟨t0, t1⟩, t2, t3⟩ := X5.out
        go_wp2_with fail
        clear t0 t1 t2 t3
        generalize w5.alloc (.cells #[.int .i64 F, .slice pv ns.length pc] 30) = W5 at *
        generalize w5.heap.size = b5 at *
        have HL1 : Hid (∀ u' : World, Below W5.heap.size W5 u' → Calls Tryz.prog 10 #[.slice av L.length cv] u' fun r w' => r = .returned (.int .i64 F) ∧ Below u'.heap.size u' w') := hide (fun u' hb' => by
          have h1 := specLayerFault_any av cv L.length L u' (RL5.out.below hb') rfl (by omega) HS.out
          rw [HLG.out] at h1
          exact h1)
        have HL2 : Hid (∀ u' : World, Below W5.heap.size W5 u' → Calls Tryz.prog 11 #[.slice av L.length cv] u' fun r w' => r = .returned (.int .i64 F) ∧ Below u'.heap.size u' w') := hide (fun u' hb' => by
          have h1 := implLayerFault_any av cv L.length L u' (RL5.out.below hb') rfl (by omega) HS.out
          rw [← HF.out] at h1
          exact h1)
        have KC : Hid (∀ w' : World, Below W5.heap.size W5 w' → w'.cell? ⟨b5, 0, none⟩ = some (.int .i64 F)) := hide (fun w' hb' => (X5.out.below hb').1.1)
        have q0 := KC.out W5 (Below.refl _ _)
        clear HLG
        go_region_held3 (fun w' => w'.cell? ⟨b5, 0, none⟩ = some (.int .i64 F)) (first | exact KC.out _ BB2.out | exact KC.out _ BB1.out | go_keep)
          ((first
            | (go_at_call 10; refine (HL1.out _ (Below.refl _ _).drew).mono ?_; rintro r w7 ⟨rfl, hb7⟩; have BB1 := hide ((Below.refl W5.heap.size W5).drew.trans hb7); clear hb7)
            | (go_at_call 11; refine (HL2.out _ BB1.out).mono ?_; rintro r w8 ⟨rfl, hb8⟩; have BB2 := hide (below_next BB1.out hb8); clear hb8)))
        go_wp2_with fail
        go_ret
        exact ⟨rfl, below_next B5.out BB2.out⟩
theorem gVStar : "*" ++ "errors.errorString" = "*errors.errorString" := by decide
theorem gVRow (u : TypeId) (h : Tryz.prog.typeName? 3 u = some "*errors.errorString") : u = 176 :=
  typeName_ptr_named (nm := "errors.errorString") (by rw [gVStar]; kernel_rfl) (by kernel_rfl) (by decide) u (by rw [gVStar]; exact h)
theorem gV0 : Tryz.prog.globalNamed "loop.example/g00299/impl.errUnread" = some 0 := by kernel_rfl
theorem gVType0 : (Tryz.prog.globals[0]?).map (·.type) = some 83 := by kernel_rfl
theorem gV1 : Tryz.prog.globalNamed "strconv.ErrSyntax" = some 5 := by kernel_rfl
theorem gVType1 : (Tryz.prog.globals[5]?).map (·.type) = some 83 := by kernel_rfl
theorem gV2 : Tryz.prog.globalNamed "strconv.ErrRange" = some 6 := by kernel_rfl
theorem gVType2 : (Tryz.prog.globals[6]?).map (·.type) = some 83 := by kernel_rfl
theorem gM : Tryz.idxA_ren.g 1 = 2 := by kernel_rfl
theorem gS : Tryz.pintA_ren.g 15 = 5 := by kernel_rfl
theorem gR : Tryz.pintA_ren.g 16 = 6 := by kernel_rfl
set_option maxRecDepth 100000 in
set_option maxHeartbeats 800000 in
theorem lifted (os : Os) (started : os.Started) (H : Type) (enc : TypeId × Value → H) :
    ReturnsInHanded {} Tryz.checked os 3 .any (fun w args => (Rows.fnTextsSpec.pre enc Tryz.prog Tryz.f3 Rows.fnTextsRow.domain false w args ∧ laidMetH Tryz.prog Rows.fnTextsRow.laid w) ∧ sizedMet enc Tryz.prog Tryz.f3 (OpenSpec.ofChange Rows.fnTextsSpec) false w args)
      (Rows.fnTextsSpec.post enc Tryz.prog Tryz.f3 false true false false) := by
  refine returnsInHanded_shaped_and (C := Tryz.checked) (X := fun w _ => laidMetH Tryz.prog Rows.fnTextsRow.laid w) (fun _ _ _ hh h => h.of_heap hh) own started (by kernel_rfl) Tryz.func3
    (ChangeSpec.witness_shaped (enc := enc) (C := Tryz.checked) (os := os) (X := fun w _ => laidMetH Tryz.prog Rows.fnTextsRow.laid w) false (World.laidAll Tryz.prog os Rows.fnTextsRow.laid) #[.slice none 0 0] 8 (World.laidAll_os _ _ _)
      (World.shaped_of_ZipB (by kernel_rfl) (by kernel_rfl)) (by kernel_rfl) (by kernel_rfl) (by kernel_rfl)
      (by rw [MakeChecks.laidMetH_plain _ _ _ (by kernel_rfl)]; exact laidMet_laidAll _ (by kernel_rfl) (by kernel_rfl))) ?_
  intro W base args ds gs before hval0 hW hcnd hL hSh
  have hval : ∀ (j : Nat) t v, Tryz.f3.params[j]? = some t → args[j]? = some v → Value.okWide Tryz.prog W .any base t v := hval0
  have hW' := hW
  obtain ⟨p, q, hA0, hV, rfl, hfz, hnd⟩ := hW
  have hA : DataW.TrodAll enc Tryz.prog W 0 (fun _ => true) true Tryz.f3.params.toList args.toList ds p := hA0
  rw [Tryz.params3] at hA hval
  obtain ⟨v0, vs0, d0, ds0, p0, q0, hargs0, rfl, rfl, h0, r0⟩ := trodAll_cons hA
  obtain ⟨rfl, rfl, rfl⟩ := trodAll_nil r0
  obtain rfl : args = #[v0] := by cases args; simp_all
  obtain ⟨gg, tt, ccs, ffu, gd, gp, rfl, -, -, -, -, -⟩ := trodVars_one hV
  have hL' := hL
  rw [MakeChecks.laidMetH_plain _ _ _ (by kernel_rfl)] at hL'
  obtain ⟨av0, sv0, hv0, -, -, -⟩ := laid_sentinel (hL'.tail.tail.tail.tail.tail) gV0 gVType0 Tryz.underlying83 gVRow Tryz.underlying176 Tryz.underlying178 rfl rfl Tryz.underlying9 (by kernel_rfl) (by kernel_rfl)
  have hgv0 : W.cell? ⟨0, 0, none⟩ = some (.iface 176 (.pointer (some av0))) := by simpa using World.var?_cell gV0 hv0 0
  obtain ⟨av1, sv1, hv1, -, -, -⟩ := laid_sentinel (hL'.tail.tail.tail.tail) gV1 gVType1 Tryz.underlying83 gVRow Tryz.underlying176 Tryz.underlying178 rfl rfl Tryz.underlying9 (by kernel_rfl) (by kernel_rfl)
  have hgv1 : W.cell? ⟨5, 0, none⟩ = some (.iface 176 (.pointer (some av1))) := by simpa using World.var?_cell gV1 hv1 0
  obtain ⟨av2, sv2, hv2, -, -, -⟩ := laid_sentinel (hL'.tail.tail.tail) gV2 gVType2 Tryz.underlying83 gVRow Tryz.underlying176 Tryz.underlying178 rfl rfl Tryz.underlying9 (by kernel_rfl) (by kernel_rfl)
  have hgv2 : W.cell? ⟨6, 0, none⟩ = some (.iface 176 (.pointer (some av2))) := by simpa using World.var?_cell gV2 hv2 0
  have hmx := Go.Proofs.cell_of_shapedOpen_int (g := 2) (t := 3) (k := .i64) (zero := #[.int .i64 0]) hSh (by decide +kernel) (by kernel_rfl) rfl (by kernel_rfl) (by kernel_rfl) (by kernel_rfl)
  have hgv : Gl W 176 (.pointer (some av0)) := ⟨hgv0, by rw [gM]; exact hmx, by rw [gS]; exact ⟨_, hgv1, Or.inr ⟨_, _, rfl⟩⟩, by rw [gR]; exact ⟨_, hgv2, Or.inr ⟨_, _, rfl⟩⟩⟩
  obtain ⟨a0, len0, cap0, rfl⟩ := okWide_slice Tryz.underlying22 (hval 0 22 v0 rfl rfl)
  have k0 := h0
  have lt0 : ∀ x ∈ p0, x.block < W.heap.size := by obtain ⟨m, hm⟩ := k0; exact DataW.trod_lt m _ _ _ hm
  obtain ⟨fuel0, hf0⟩ := h0
  obtain ⟨zs0, hlen0, rd0, u0, mx0⟩ := bytes_of_trod (by simpa [Value.cells] using hf0)
  subst hlen0
  clear hA0 hval0
  refine (walk W _ _ hgv a0 cap0 zs0 rd0 u0 mx0).mono fun e W' ⟨he, bel⟩ => ?_
  subst he
  exact ⟨_, rfl, _, _, _, [], _, q, hW', trodAll_mk1 (shut_bool Tryz.underlying4 _), (trodAll_cons_mk (Below.trod laidOut (by kernel_rfl) (of_decide_eq_true (by kernel_rfl)) k0 bel lt0) trodAll_mk0), bel.trodVars laidOut (by kernel_rfl) hV, bel.frame _, fun h => by cases h⟩

theorem over : Rows.fnTextsRow.holds Tryz.pinned (OpenSpec.ofChange Rows.fnTextsSpec) :=
  OpenClaim.holds_of_wide 3 Tryz.f3 rfl rfl rfl rfl rfl rfl rfl ⟨rfl, rfl, rfl, rfl, rfl⟩ rfl rfl rfl rfl rfl (by kernel_rfl) Tryz.func3 (by kernel_rfl)
    (of_decide_eq_true (by kernel_rfl)) (by unfold Func.isWrapper; first | (rw [if_pos (by decide +kernel)]; kernel_rfl) | (rw [if_neg (by decide +kernel)]; exact ⟨rfl, rfl⟩))
    (fun os started H enc _ => lifted os started H enc)
theorem card : Rows.FnTextsCardSaid :=
  Claim7.holds_tied_plain_at .later [] [.data, .data, .data, .sentinel, .sentinel, .sentinel] true (true, "19a32742a350f9f36e97e291c4e7bb486f166b77e06d48c37fae143c2e13b39d") true over (fun _ h => by cases h) (by kernel_rfl) (fun _ h => by cases h) fnTexts_row_tie rfl ⟨rfl, rfl⟩ (by kernel_rfl) rfl
    (fun f fn hf hfn => by
      obtain rfl : f = 3 := Option.some.inj ((show Tryz.prog.funcNamed "loop.example/g00299/laws.FnTexts" = some 3 by kernel_rfl).symm.trans hf) |>.symm
      obtain rfl : fn = Tryz.f3 := (Option.some.inj (Tryz.func3.symm.trans hfn)).symm
      exact ⟨by kernel_rfl, fun j t ht => by
        rw [Tryz.params3] at ht
        have hm : t ∈ [22] := by simpa using Array.mem_of_getElem? ht
        have hall : ([22].all fun u => !Tryz.prog.wantsStandIn u) = true := by kernel_rfl
        exact (show Tryz.prog.wantsStandIn t = false by simpa using List.all_eq_true.1 hall t hm)⟩)
    (by kernel_rfl)
end Go.Proofs.YtlbccbikepkfiaaGreatDoor.fnTexts
namespace Go.Proofs.YtlbccbikepkfiaaGreatDoor
theorem fnTextsCard_holds : Rows.FnTextsCardSaid := fnTexts.card
#print axioms fnTextsCard_holds
end Go.Proofs.YtlbccbikepkfiaaGreatDoor
