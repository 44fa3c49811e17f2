/-
  At every byte slice the law FnLists returns true: of a directory just what has it as parent is told. No condition.
-/
import Derived.Test.YtbdbhdgfifojoabGreatTreF
import Derived.Test.YtbdbhdgfifojoabGreatTreG
import Derived.ProofKit
import Derived.OpenShut
import Derived.ShutString
import Derived.ChangeOld
import Derived.Deep.DrawnRows
import Derived.Deep.RegionHeld3
namespace Go.Proofs.YtbdbhdgfifojoabGreat.fnLists
open Go.ChangeShapes Go.WideShapes Go.ChangeAt Go.RowKit Go.Maps
set_option linter.unusedVariables false
attribute [local go_sem ↓] Go.wp_at_zero Go.wp_at_succ

theorem own : ownKnob Tryz.prog.godebug = none := by kernel_rfl
theorem laidOut : laidOutB Tryz.prog = true := by kernel_rfl

theorem lwBig_no (a : Option Addr) (cap : Nat) (n : Nat) (w : World) (h : n ≤ 1048576) :
    Calls Tryz.prog 4 #[.slice a n cap] w fun e w' => e = .returned (.bool false) ∧ w' = w := by
  have hb : ¬ (1048576 : Int) < (n : Int) := by omega
  go_enter Tryz.func4, Tryz.ntmps4
  go_wp2
  go_ret
  exact ⟨ret_bool (by simp <;> omega), rfl⟩
theorem lwBig_yes (a : Option Addr) (cap : Nat) (n : Nat) (w : World) (h : 1048576 < n) (h2 : n ≤ maxLen) :
    Calls Tryz.prog 4 #[.slice a n cap] w fun e w' => e = .returned (.bool true) ∧ w' = w := by
  have hb : (1048576 : Int) < (n : Int) := by omega
  unfold maxLen at h2
  go_enter Tryz.func4, Tryz.ntmps4
  go_wp2
  go_ret
  exact ⟨ret_bool (by simp <;> omega), rfl⟩

theorem names_at {es : List En} {q : Bs} {k : Nat} {e : En} (he : es[k]? = some e) (h : parentP e.path = q) : (namesE es q)[(namesE (es.take k) q).length]? = some (lastP e.path) := by
  have h1 : namesE es q = namesE (es.take k) q ++ (lastP e.path :: namesE (es.drop (k + 1)) q) := by
    conv => lhs; rw [← List.take_append_drop k es, drop_at he]
    unfold namesE kidsE
    rw [List.filter_append, List.map_append, List.filter_cons]
    simp [h]
  rw [h1, List.getElem?_append_right (Nat.le_refl _), Nat.sub_self]
  rfl
theorem list_find {es : List En} {p : Bs} (h : listC es p = 0) (h0 : p ≠ [47]) : ∃ e, findE es p = some e := by
  unfold listC at h
  rw [if_neg h0] at h
  by_cases h1 : statC es p = 0
  · obtain ⟨e, he, -⟩ := statL_one h1
    exact ⟨e, he⟩
  · rw [if_neg h1] at h; exact absurd h h1
theorem rem_list {es : List En} {p : Bs} (hR : RightT es) (hp : faultP p = 0) (h : ∃ e, findE es p = some e) : remRep es p = if (namesE es p).length = 0 then 0 else 1 := by
  have h1 : askT es p = 0 := by rw [askT, if_pos (rightT_P.2 hR), hp]
  obtain ⟨e, he⟩ := h
  rw [remRep, if_pos h1]
  by_cases hk : kidsE es p = []
  · rw [if_pos (names_none.2 hk)]
    simp [removeC, he, hk]
  · rw [if_neg (fun e => hk (names_none.1 e))]
    simp [removeC, he, hk]

set_option maxRecDepth 100000 in
set_option maxHeartbeats 16000000 in
theorem walk (a0 : Option Addr) (cap0 : Nat) (zs : List Int) (w : World) (h : Reads .u8 w a0 zs) (hu : U8 zs) (hmax : zs.length ≤ maxLen) :
    Calls Tryz.prog 3 #[.slice a0 zs.length cap0] w fun e w' => e = .returned (.bool true) ∧ Below w.heap.size w w' := by
  have HR := hide h
  have HU := hide hu
  clear h hu
  by_cases hbig : 1048576 < zs.length
  · go_enter Tryz.func3, Tryz.ntmps3
    go_wp2_with fail
    refine (lwBig_yes _ _ _ _ hbig hmax).mono ?_
    rintro e w ⟨rfl, rfl⟩
    go_wp2_with fail
    go_ret
    exact ⟨rfl, Below.refl _ _⟩
  · go_enter Tryz.func3, Tryz.ntmps3
    go_wp2_with fail
    refine (lwBig_no _ _ _ _ (by omega)).mono ?_
    rintro e w ⟨rfl, rfl⟩
    go_wp2_with fail
    refine (drawListTree_any a0 cap0 zs _ HR.out HU.out (by omega)).mono ?_
    rintro e w1 ⟨es, av, cv, p, rfl, hgd, hel, hsm, hrd, hpl, hb1⟩
    have HGd := hide hgd
    have HSm := hide hsm
    have RD1 := hide hrd
    have B1 := hide hb1
    clear hgd hsm hrd hb1 HR HU hbig hmax
    have hle : es.length ≤ 1048576 := by omega
    go_wp2_with fail
    refine (implListTree_any av cv es.length es p w1 RD1.out rfl hle HSm.out hpl).mono ?_
    rintro r w2 ⟨nv, nc, rfl, hO, hb2⟩
    have AW := hide (below_alloc w2 (.cells #[.int .i64 (listC es p), .slice nv (listL es p).length nc] 29))
    have X2 := hide (Box.new w2 (.int .i64 (listC es p)) (.slice nv (listL es p).length nc) 29)
    have O2 := hide (hO.below AW.out)
    have BW2 := hide (below_next hb2 AW.out)
    have B2 := hide (below_next B1.out BW2.out)
    have RD2 := hide (RD1.out.below BW2.out)
    have HSP : Hid (∀ u : World, Below w1.heap.size w1 u → Calls Tryz.prog 7 #[.slice av es.length cv, .string (str p)] u (ResN (listC es p) (listL es p) u)) := hide (fun u hb' => specListTree_any av cv es.length es p u (RD1.out.below hb') rfl hle HSm.out hpl HGd.out)
    clear hO hb2 AW
    by_cases hz : listC es p = 0
    · obtain ⟨hRT, hpp⟩ := list_tree hz
      have HRT := hide hRT
      have hLL : listL es p = namesE es (topQ p) := by rw [listL, if_pos hz]
      rw [hz, hLL] at X2 O2 HSP B2 BW2 RD2 ⊢
      obtain ⟨ns, hns⟩ : ∃ ns, ns = namesE es (topQ p) := ⟨_, rfl⟩
      have hnl : ns.length ≤ 1048576 := by rw [hns]; have := namesE_len es (topQ p); omega
      have HNS := hide hns
      rw [← hns] at X2 O2 HSP B2 BW2 RD2 ⊢
      have HZ := hide hz
      have HPP := hide hpp
      clear hz hLL hns hRT hpp
      go_wp2_with fail
      have hb2 : w2.heap.size < (w2.alloc (.cells #[.int .i64 0, .slice nv ns.length nc] 29)).heap.size := by simp
      generalize w2.alloc (.cells #[.int .i64 0, .slice nv ns.length nc] 29) = W2 at *
      generalize w2.heap.size = b2 at *
      have RN := hide (show ReadsS W2 nv ns from O2.out.reads)
      have hs47 : ((str p).toList == [47]) = decide (p = [47]) := by rw [str_toList]; by_cases h47 : p = [47] <;> simp [h47]
      obtain ⟨⟨t0, t1⟩, t2, t3⟩ := X2.out
      go_wp2_with fail
      clear t0 t1 t2 t3
      go_loopw [6, 7] (fun nn i wr => ∃ k : Nat, k ≤ es.length ∧ i = .int .i64 k ∧ nn = .int .i64 ((namesE (es.take k) (topQ p)).length : Nat) ∧ Hid (Below W2.heap.size W2 wr)) (fun _ i _ => es.length - (intOf i).toNat)
      case atStart => exact ⟨0, Nat.zero_le _, rfl, rfl, hide (Below.refl _ _)⟩
      case round =>
        obtain ⟨k, hk, rfl, rfl, HW⟩ := hrel
        have hsz := HW.out.size
        have hml := namesE_len (es.take k) (topQ p)
        rw [List.length_take] at hml
        by_cases hlt : k < es.length
        · obtain ⟨b, off, e, x, cc, rfl, hb, he, c0, c1, c2, c3, hr⟩ := (RD2.out.below HW.out).at hlt
          have hpf := HRT.out.path (List.mem_of_getElem? he)
          have hsm := (HSm.out e (List.mem_of_getElem? he)).1
          have hPT := parT_right hpf
          have hPC := parC_right hpf
          have HX := hide he
          have HPF := hide hpf
          have HPAR := hide (fun h0 => parent_above hpf h0)
          have HC0 : Hid (∀ u : World, Below wr.heap.size wr u → u.cell? ⟨b, off + k * 4, none⟩ = some (.string (str e.path))) := hide (fun u hu => (hu.cell (p := ⟨b, off + k * 4, none⟩) hb).trans c0)
          clear he hr c1 c2 c3 hpf
          go_wp2_with fail
          refine (implParentOf_any (str e.path) _ (by rw [str_size]; omega)).mono ?_
          rw [str_data]
          rintro r w3 ⟨rfl, hb3⟩
          by_cases hq : parentP e.path = topQ p
          · have HNL := hide (show (namesE (es.take (k + 1)) (topQ p)).length = (namesE (es.take k) (topQ p)).length + 1 from by rw [namesE_in HX.out hq]; simp)
            have HAT := hide (show ns[(namesE (es.take k) (topQ p)).length]? = some (lastP e.path) from by rw [HNS.out]; exact names_at HX.out hq)
            have AW3 := hide (below_next hb3 (below_alloc w3 (.cells #[.int .i64 (parC e.path), .string (str (parT e.path))] 32)))
            have AX3 := hide (Box.new w3 (.int .i64 (parC e.path)) (.string (str (parT e.path))) 32)
            have COND : Hid ((p = [47] ∧ parC e.path = 4) ∨ (p ≠ [47] ∧ parC e.path = 0 ∧ parT e.path = p)) := hide (by
              unfold topQ at hq
              by_cases h47 : p = [47]
              · rw [if_pos h47] at hq
                exact .inl ⟨h47, by rw [hPC, if_pos hq]⟩
              · rw [if_neg h47] at hq
                have hp0 : p ≠ [] := by
                  rintro rfl
                  rcases HPP.out with hx | hx
                  · exact h47 hx
                  · exact faultP_nil hx
                refine .inr ⟨h47, by rw [hPC, if_neg (by rw [hq]; exact hp0)], by rw [hPT, hq]⟩)
            clear hb3 hq hPC hPT
            obtain ⟨m, hm⟩ : ∃ m, m = (namesE (es.take k) (topQ p)).length := ⟨_, rfl⟩
            rw [← hm] at HNL HAT hml ⊢
            clear hm
            have hmn : m < ns.length := (List.getElem?_eq_some_iff.1 HAT.out).1
            have hge : ¬ ((ns.length : Int) ≤ (m : Int)) := by omega
            have hged : decide ((ns.length : Int) ≤ (m : Int)) = false := decide_eq_false hge
            have hgn : ¬ ns.length ≤ m := by omega
            have hgnd : decide (ns.length ≤ m) = false := decide_eq_false hgn
            have hm0 : (0 : Int) ≤ (m : Int) := by omega
            have hm1 : (m : Int) < (ns.length : Int) := by omega
            have hk0 : (0 : Int) ≤ (k : Int) := by omega
            have hk1 : (k : Int) < (es.length : Int) := by omega
            generalize parC e.path = PC at *
            generalize parT e.path = PT at *
            obtain ⟨nb, no, np, rfl, hnb, hnp, hnc⟩ := RN.out.at hmn
            have hnpe : np = lastP e.path := Option.some.inj (hnp.symm.trans HAT.out)
            subst hnpe
            have HNC := hide hnc
            have hnbb := hnb
            clear hnp hnc HAT
            rcases COND.out with ⟨h47, h4⟩ | ⟨h47, h4, hpt⟩
            · rw [decide_eq_true h47] at hs47
              subst h4
              clear h47 COND
              go_wp2_with fail
              generalize w3.alloc (.cells #[.int .i64 4, .string (str PT)] 32) = W3 at *
              generalize w3.heap.size = b3 at *
              have BW3 := hide (below_next HW.out AW3.out)
              have m1 : ∀ u : InW (fun x => Below W3.heap.size W3 x), u.val.cell? ⟨b2, 1, none⟩ = some (.slice (some ⟨nb, no, none⟩) ns.length nc) := fun u => (X2.out.below (below_next BW3.out u.ok)).1.2
              have m2 : ∀ u : InW (fun x => Below W3.heap.size W3 x), u.val.cell? ⟨nb, no + m, none⟩ = some (.string (str (lastP e.path))) := fun u => ((below_next BW3.out u.ok).cell (p := ⟨nb, no + m, none⟩) hnbb).trans HNC.out
              have m3 : ∀ u : InW (fun x => Below W3.heap.size W3 x), u.val.cell? ⟨b, off + k * 4, none⟩ = some (.string (str e.path)) := fun u => HC0.out _ (below_next AW3.out u.ok)
              have C1 : Hid (∀ u : InW (fun x => Below W3.heap.size W3 x), Calls Tryz.prog 9 #[.string (str e.path)] u.val fun r w' => r = .returned (.agg #[.int .i64 0, .string (str (lastP e.path))]) ∧ ∃ x : InW (fun x => Below W3.heap.size W3 x), w' = x.val) := hide (fun u => (implLastOf_any (str e.path) u.val (by rw [str_size]; omega)).mono (fun r w' ⟨hr, hb⟩ => ⟨by rw [hr, str_data, HPF.out, lastT_right HPF.out], ⟨⟨w', below_next u.ok hb⟩, rfl⟩⟩))
              haveI : Nonempty (InW (fun x => Below W3.heap.size W3 x)) := ⟨⟨W3, Below.refl _ _⟩⟩
              have hfd : ∀ (w : World), (Instr.field 32 (.agg #[.int .i64 0, .string (str (lastP e.path))]) 1).run Tryz.prog w = .ok (.string (str (lastP e.path))) w := fun _ => by kernel_rfl
              refine wp_region_inv (Inv := (fun x => Below W3.heap.size W3 x)) (by kernel_rfl) (by kernel_rfl) (Below.refl _ _).drew ?_
              repeat (first | go_big_quiet_step ((go_at_call 9; exact C1.out _)) | quiet_step (fail))
              refine wpQuiet_nil ?_
              intro _ hw'
              obtain ⟨u, hw''⟩ := hw'
              subst hw''
              have B12 := hide (below_next BW3.out u.ok)
              go_wp2_with fail
              go_roundw
              case rel => exact ⟨k + 1, by omega, by go_num, by rw [HNL.out]; go_num, B12⟩
              case measure => simp [intOf]; omega
            · rw [decide_eq_false h47] at hs47
              subst h4 hpt
              clear h47 COND
              go_wp2_with fail
              generalize w3.alloc (.cells #[.int .i64 0, .string (str PT)] 32) = W3 at *
              generalize w3.heap.size = b3 at *
              have BW3 := hide (below_next HW.out AW3.out)
              have m1 : ∀ u : InW (fun x => Below W3.heap.size W3 x), u.val.cell? ⟨b2, 1, none⟩ = some (.slice (some ⟨nb, no, none⟩) ns.length nc) := fun u => (X2.out.below (below_next BW3.out u.ok)).1.2
              have m2 : ∀ u : InW (fun x => Below W3.heap.size W3 x), u.val.cell? ⟨nb, no + m, none⟩ = some (.string (str (lastP e.path))) := fun u => ((below_next BW3.out u.ok).cell (p := ⟨nb, no + m, none⟩) hnbb).trans HNC.out
              have m3 : ∀ u : InW (fun x => Below W3.heap.size W3 x), u.val.cell? ⟨b, off + k * 4, none⟩ = some (.string (str e.path)) := fun u => HC0.out _ (below_next AW3.out u.ok)
              have C1 : Hid (∀ u : InW (fun x => Below W3.heap.size W3 x), Calls Tryz.prog 9 #[.string (str e.path)] u.val fun r w' => r = .returned (.agg #[.int .i64 0, .string (str (lastP e.path))]) ∧ ∃ x : InW (fun x => Below W3.heap.size W3 x), w' = x.val) := hide (fun u => (implLastOf_any (str e.path) u.val (by rw [str_size]; omega)).mono (fun r w' ⟨hr, hb⟩ => ⟨by rw [hr, str_data, HPF.out, lastT_right HPF.out], ⟨⟨w', below_next u.ok hb⟩, rfl⟩⟩))
              haveI : Nonempty (InW (fun x => Below W3.heap.size W3 x)) := ⟨⟨W3, Below.refl _ _⟩⟩
              have hfd : ∀ (w : World), (Instr.field 32 (.agg #[.int .i64 0, .string (str (lastP e.path))]) 1).run Tryz.prog w = .ok (.string (str (lastP e.path))) w := fun _ => by kernel_rfl
              refine wp_region_inv (Inv := (fun x => Below W3.heap.size W3 x)) (by kernel_rfl) (by kernel_rfl) (Below.refl _ _).drew ?_
              repeat (first | go_big_quiet_step ((go_at_call 9; exact C1.out _)) | quiet_step (fail))
              refine wpQuiet_nil ?_
              intro _ hw'
              obtain ⟨u, hw''⟩ := hw'
              subst hw''
              have B12 := hide (below_next BW3.out u.ok)
              go_wp2_with fail
              go_roundw
              case rel => exact ⟨k + 1, by omega, by go_num, by rw [HNL.out]; go_num, B12⟩
              case measure => simp [intOf]; omega
          · have HNO := hide (namesE_out HX.out hq)
            have AW3 := hide (below_next hb3 (below_alloc w3 (.cells #[.int .i64 (parC e.path), .string (str (parT e.path))] 32)))
            have COND : Hid ((p = [47] ∧ parC e.path = 0) ∨ (p ≠ [47] ∧ (parC e.path = 4 ∨ (parC e.path = 0 ∧ parT e.path ≠ p)))) := hide (by
              unfold topQ at hq
              by_cases h47 : p = [47]
              · rw [if_pos h47] at hq
                exact .inl ⟨h47, by rw [hPC, if_neg hq]⟩
              · rw [if_neg h47] at hq
                refine .inr ⟨h47, ?_⟩
                by_cases h0 : parentP e.path = []
                · exact .inl (by rw [hPC, if_pos h0])
                · exact .inr ⟨by rw [hPC, if_neg h0], by rw [hPT]; exact hq⟩)
            clear hb3 hq hPC hPT
            generalize parC e.path = PC at *
            generalize parT e.path = PT at *
            rcases COND.out with ⟨h47, h4⟩ | ⟨h47, h4 | ⟨h4, hpt⟩⟩
            · rw [decide_eq_true h47] at hs47
              subst h4
              clear h47 COND
              go_wp2_with fail
              go_roundw
              case rel => exact ⟨k + 1, by omega, by go_num, by rw [HNO.out], hide (below_next HW.out AW3.out)⟩
              case measure => simp [intOf]; omega
            · rw [decide_eq_false h47] at hs47
              subst h4
              clear h47 COND
              go_wp2_with fail
              go_roundw
              case rel => exact ⟨k + 1, by omega, by go_num, by rw [HNO.out], hide (below_next HW.out AW3.out)⟩
              case measure => simp [intOf]; omega
            · rw [decide_eq_false h47] at hs47
              have hs2 := str_no hpt
              subst h4
              clear h47 COND hpt
              go_wp2_with fail
              go_roundw
              case rel => exact ⟨k + 1, by omega, by go_num, by rw [HNO.out], hide (below_next HW.out AW3.out)⟩
              case measure => simp [intOf]; omega
        · have hke : es.take k = es := List.take_of_length_le (by omega)
          rw [hke, ← HNS.out]
          have BW3 := hide HW.out
          go_wp2_with fail
          refine (implRemoveTree_any av cv es.length es p _ (RD2.out.below HW.out) rfl hle HSm.out hpl).mono ?_
          rintro r w4 ⟨dv, dc, rfl, -, hb4⟩
          have HRR : Hid (p ≠ [47] → remRep es p = if ns.length = 0 then 0 else 1) := hide (fun h47 => by
            have hpf : faultP p = 0 := HPP.out.resolve_left h47
            have := rem_list HRT.out hpf (list_find HZ.out h47)
            have e2 : topQ p = p := by unfold topQ; rw [if_neg h47]
            rw [HNS.out, e2]
            exact this)
          generalize askT es p = AK at *
          generalize remRep es p = RP at *
          generalize remList es p = RL at *
          have AX := hide (Box3.new w4 (.int .i64 AK) (.int .i64 RP) (.slice dv RL.length dc) 38)
          have BW4 := hide (below_next HW.out (below_next hb4 (below_alloc w4 (.cells #[.int .i64 AK, .int .i64 RP, .slice dv RL.length dc] 38))))
          clear hb4 hke
          go_wp2_with fail
          generalize w4.alloc (.cells #[.int .i64 AK, .int .i64 RP, .slice dv RL.length dc] 38) = W4 at *
          generalize w4.heap.size = b4 at *
          have KC : Hid (∀ u : World, Below W4.heap.size W4 u → u.cell? ⟨b2, 1, none⟩ = some (.slice nv ns.length nc) ∧ u.cell? ⟨b4, 1, none⟩ = some (.int .i64 RP)) := hide (fun u hu => ⟨(X2.out.below (below_next BW4.out hu)).1.2, (AX.out.below hu).1.2.1⟩)
          have HLW : Hid (∀ (u : World) (a : Option Addr) (c : Nat), Below W4.heap.size W4 u → OwnS W4.heap.size u (.slice a ns.length c) ns → Calls Tryz.prog 11 #[.slice nv ns.length nc, .slice a ns.length c] u fun e w' => e = .returned (.bool true) ∧ Below u.heap.size u w') := hide (fun u a c hu ho => lwNames_e nv a nc c ns u (RN.out.below (below_next BW4.out hu)) ho.reads hnl)
          have HSP4 : Hid (∀ u : World, Below W4.heap.size W4 u → Calls Tryz.prog 7 #[.slice av es.length cv, .string (str p)] u (ResN 0 ns u)) := hide (fun u hu => HSP.out u (below_next BW2.out (below_next BW4.out hu)))
          have hnn : ((ns.length : Int) == (ns.length : Int)) = true := by simp
          have hfd : ∀ (a : Option Addr) (c : Nat) (w : World), (Instr.field 29 (.agg #[.int .i64 0, .slice a ns.length c]) 1).run Tryz.prog w = .ok (.slice a ns.length c) w := fun _ _ _ => by kernel_rfl
          have BF := hide (below_next B2.out BW4.out)
          clear HSP X2 O2 RN RD2 AX BW2 HRT HGd HSm
          obtain ⟨s1, s2⟩ := KC.out _ (Below.refl _ _)
          by_cases h47 : p = [47]
          · rw [decide_eq_true h47] at hs47
            clear h47 HRR
            refine wp_region_held_drew (S := fun w' => w'.cell? ⟨b2, 1, none⟩ = some (.slice nv ns.length nc)) (by kernel_rfl) s1 (fun hHeld => ?_)
            change wpAnyH _ _ _ _ _ _ (Array.replicate _ false) _ _
            refine wpAnyH_take (i := 0) (oi := { dst := some 89, op := _, type := _, pos := _, after := _, guard := _ }) (v := .int .i64 ns.length) rfl (by kernel_rfl) (by kernel_rfl) (by kernel_rfl) (fun _ _ _ h => h) (Or.inl ⟨by rfl, ?_⟩) hHeld ?_
            · intro w hSw
              go_simp
            try simp only [Act.put, List.setIfInBounds_toArray, List.set_cons_zero, List.set_cons_succ]
            refine wpAnyH_take (i := 1) (oi := { dst := some 90, op := _, type := _, pos := _, after := _, guard := _ }) (v := .pointer (some ⟨b2, 1, none⟩)) rfl (by kernel_rfl) (by kernel_rfl) (by kernel_rfl) (fun _ _ _ h => h) (Or.inl ⟨by rfl, ?_⟩) hHeld ?_
            · intro w hSw
              go_simp
            try simp only [Act.put, List.setIfInBounds_toArray, List.set_cons_zero, List.set_cons_succ]
            refine wpAnyH_take (i := 2) (oi := { dst := some 91, op := _, type := _, pos := _, after := _, guard := _ }) (v := .slice nv ns.length nc) rfl (by kernel_rfl) (by kernel_rfl) (by kernel_rfl) (fun _ _ _ h => h) (Or.inl ⟨by rfl, ?_⟩) hHeld ?_
            · intro w hSw
              go_simp
            try simp only [Act.put, List.setIfInBounds_toArray, List.set_cons_zero, List.set_cons_succ]
            refine wpAnyH_take (i := 3) (oi := { dst := some 92, op := _, type := _, pos := _, after := _, guard := _ }) (v := .int .i64 ns.length) rfl (by kernel_rfl) (by kernel_rfl) (by kernel_rfl) (fun _ _ _ h => h) (Or.inl ⟨by rfl, ?_⟩) hHeld ?_
            · intro w hSw
              go_simp
            try simp only [Act.put, List.setIfInBounds_toArray, List.set_cons_zero, List.set_cons_succ]
            refine wpAnyH_take (i := 4) (oi := { dst := some 93, op := _, type := _, pos := _, after := _, guard := _ }) (v := .bool true) rfl (by kernel_rfl) (by kernel_rfl) (by kernel_rfl) (fun _ _ _ h => h) (Or.inl ⟨by rfl, ?_⟩) hHeld ?_
            · intro w hSw
              go_simp
            try simp only [Act.put, List.setIfInBounds_toArray, List.set_cons_zero, List.set_cons_succ]
            refine wpAnyH_take (i := 5) (oi := { dst := some 94, op := _, type := _, pos := _, after := _, guard := _ }) (v := .bool true) rfl (by kernel_rfl) (by kernel_rfl) (by kernel_rfl) (fun _ _ _ h => h) (Or.inl ⟨by rfl, ?_⟩) hHeld ?_
            · intro w hSw
              go_simp
            try simp only [Act.put, List.setIfInBounds_toArray, List.set_cons_zero, List.set_cons_succ]
            refine wpAnyH_take (i := 6) (oi := { dst := some 95, op := _, type := _, pos := _, after := _, guard := _ }) (v := .string (str p)) rfl (by kernel_rfl) (by kernel_rfl) (by kernel_rfl) (fun _ _ _ h => h) (Or.inl ⟨by rfl, ?_⟩) hHeld ?_
            · intro w hSw
              go_simp
            try simp only [Act.put, List.setIfInBounds_toArray, List.set_cons_zero, List.set_cons_succ]
            refine wpAnyH_take (i := 7) (oi := { dst := some 96, op := _, type := _, pos := _, after := _, guard := _ }) (v := .bool true) rfl (by kernel_rfl) (by kernel_rfl) (by kernel_rfl) (fun _ _ _ h => h) (Or.inl ⟨by rfl, ?_⟩) hHeld ?_
            · intro w hSw
              go_simp
            try simp only [Act.put, List.setIfInBounds_toArray, List.set_cons_zero, List.set_cons_succ]
            refine wpAnyH_take (i := 8) (oi := { dst := some 97, op := _, type := _, pos := _, after := _, guard := _ }) (v := .bool true) rfl (by kernel_rfl) (by kernel_rfl) (by kernel_rfl) (fun _ _ _ h => h) (Or.inl ⟨by rfl, ?_⟩) hHeld ?_
            · intro w hSw
              go_simp
            try simp only [Act.put, List.setIfInBounds_toArray, List.set_cons_zero, List.set_cons_succ]
            refine wpAnyH_take (i := 9) (oi := { dst := some 98, op := _, type := _, pos := _, after := _, guard := _ }) (v := undef) rfl (by kernel_rfl) (by kernel_rfl) (by kernel_rfl) (fun _ _ _ h => h) (Or.inr ⟨by rfl, rfl⟩) hHeld ?_
            try simp only [Act.put, List.setIfInBounds_toArray, List.set_cons_zero, List.set_cons_succ]
            refine wpAnyH_take (i := 10) (oi := { dst := some 99, op := _, type := _, pos := _, after := _, guard := _ }) (v := undef) rfl (by kernel_rfl) (by kernel_rfl) (by kernel_rfl) (fun _ _ _ h => h) (Or.inr ⟨by rfl, rfl⟩) hHeld ?_
            try simp only [Act.put, List.setIfInBounds_toArray, List.set_cons_zero, List.set_cons_succ]
            refine wpAnyH_take (i := 11) (oi := { dst := some 100, op := _, type := _, pos := _, after := _, guard := _ }) (v := undef) rfl (by kernel_rfl) (by kernel_rfl) (by kernel_rfl) (fun _ _ _ h => h) (Or.inr ⟨by rfl, rfl⟩) hHeld ?_
            try simp only [Act.put, List.setIfInBounds_toArray, List.set_cons_zero, List.set_cons_succ]
            refine wpAnyH_take (i := 12) (oi := { dst := some 101, op := _, type := _, pos := _, after := _, guard := _ }) (v := undef) rfl (by kernel_rfl) (by kernel_rfl) (by kernel_rfl) (fun _ _ _ h => h) (Or.inr ⟨by rfl, rfl⟩) hHeld ?_
            try simp only [Act.put, List.setIfInBounds_toArray, List.set_cons_zero, List.set_cons_succ]
            refine wpAnyH_take (i := 13) (oi := { dst := some 102, op := _, type := _, pos := _, after := _, guard := _ }) (v := undef) rfl (by kernel_rfl) (by kernel_rfl) (by kernel_rfl) (fun _ _ _ h => h) (Or.inr ⟨by rfl, rfl⟩) hHeld ?_
            try simp only [Act.put, List.setIfInBounds_toArray, List.set_cons_zero, List.set_cons_succ]
            refine wpAnyH_take (i := 14) (oi := { dst := some 103, op := _, type := _, pos := _, after := _, guard := _ }) (v := undef) rfl (by kernel_rfl) (by kernel_rfl) (by kernel_rfl) (fun _ _ _ h => h) (Or.inr ⟨by rfl, rfl⟩) hHeld ?_
            try simp only [Act.put, List.setIfInBounds_toArray, List.set_cons_zero, List.set_cons_succ]
            refine wpAnyH_take (i := 15) (oi := { dst := some 104, op := _, type := _, pos := _, after := _, guard := _ }) (v := .bool true) rfl (by kernel_rfl) (by kernel_rfl) (by kernel_rfl) (fun _ _ _ h => h) (Or.inl ⟨by rfl, ?_⟩) hHeld ?_
            · intro w hSw
              go_simp
            try simp only [Act.put, List.setIfInBounds_toArray, List.set_cons_zero, List.set_cons_succ]
            refine wpAnyH_take (i := 16) (oi := { dst := some 105, op := _, type := _, pos := _, after := _, guard := _ }) (v := .bool true) rfl (by kernel_rfl) (by kernel_rfl) (by kernel_rfl) (fun _ _ _ h => h) (Or.inl ⟨by rfl, ?_⟩) hHeld ?_
            · intro w hSw
              go_simp
            try simp only [Act.put, List.setIfInBounds_toArray, List.set_cons_zero, List.set_cons_succ]
            refine wpAnyH_take (i := 17) (oi := { dst := some 106, op := _, type := _, pos := _, after := _, guard := _ }) (v := .bool true) rfl (by kernel_rfl) (by kernel_rfl) (by kernel_rfl) (fun _ _ _ h => h) (Or.inl ⟨by rfl, ?_⟩) hHeld ?_
            · intro w hSw
              go_simp
            try simp only [Act.put, List.setIfInBounds_toArray, List.set_cons_zero, List.set_cons_succ]
            refine wpAnyH_take (i := 18) (oi := { dst := some 107, op := _, type := _, pos := _, after := _, guard := _ }) (v := .pointer (some ⟨b2, 1, none⟩)) rfl (by kernel_rfl) (by kernel_rfl) (by kernel_rfl) (fun _ _ _ h => h) (Or.inl ⟨by rfl, ?_⟩) hHeld ?_
            · intro w hSw
              go_simp
            try simp only [Act.put, List.setIfInBounds_toArray, List.set_cons_zero, List.set_cons_succ]
            refine wpAnyH_take (i := 19) (oi := { dst := some 108, op := _, type := _, pos := _, after := _, guard := _ }) (v := .slice nv ns.length nc) rfl (by kernel_rfl) (by kernel_rfl) (by kernel_rfl) (fun _ _ _ h => h) (Or.inl ⟨by rfl, ?_⟩) hHeld ?_
            · intro w hSw
              go_simp
            try simp only [Act.put, List.setIfInBounds_toArray, List.set_cons_zero, List.set_cons_succ]
            refine wpAnyH_take (i := 20) (oi := { dst := some 109, op := _, type := _, pos := _, after := _, guard := _ }) (v := .slice av es.length cv) rfl (by kernel_rfl) (by kernel_rfl) (by kernel_rfl) (fun _ _ _ h => h) (Or.inl ⟨by rfl, ?_⟩) hHeld ?_
            · intro w hSw
              go_simp
            try simp only [Act.put, List.setIfInBounds_toArray, List.set_cons_zero, List.set_cons_succ]
            refine wpAnyH_take (i := 21) (oi := { dst := some 110, op := _, type := _, pos := _, after := _, guard := _ }) (v := .string (str p)) rfl (by kernel_rfl) (by kernel_rfl) (by kernel_rfl) (fun _ _ _ h => h) (Or.inl ⟨by rfl, ?_⟩) hHeld ?_
            · intro w hSw
              go_simp
            try simp only [Act.put, List.setIfInBounds_toArray, List.set_cons_zero, List.set_cons_succ]
            refine wpAnyH_ready (rs := [22]) (by kernel_rfl) (by simp) ?_
            refine AllReadyH.cons rfl (fun K hK => ?_) AllReadyH.nil
            go_simp
            refine (HSP4.out _ (Below.refl _ _).drew).mono ?_
            rintro r w5 ⟨av5, cv5, rfl, ho5, hb5⟩
            have O5 := hide (OwnS.mono ho5 (Nat.le_refl W4.heap.size))
            have BB5 := hide ((Below.refl W4.heap.size W4).drew.trans hb5)
            clear hb5 ho5
            go_wp2_with fail
            refine hK.out _ _ (KC.out _ BB5.out).1 (fun hHeld => ?_)
            clear hK K
            refine wpAnyH_take (i := 23) (oi := { dst := some 112, op := _, type := _, pos := _, after := _, guard := _ }) (v := .slice av5 ns.length cv5) rfl (by kernel_rfl) (by kernel_rfl) (by kernel_rfl) (fun _ _ _ h => h) (Or.inl ⟨by rfl, ?_⟩) hHeld ?_
            · intro w hSw
              go_simp
            try simp only [Act.put, List.setIfInBounds_toArray, List.set_cons_zero, List.set_cons_succ]
            refine wpAnyH_ready (rs := [24]) (by kernel_rfl) (by simp) ?_
            refine AllReadyH.cons rfl (fun K hK => ?_) AllReadyH.nil
            go_simp
            refine (HLW.out _ _ _ BB5.out O5.out).mono ?_
            rintro r w6 ⟨rfl, hb6⟩
            have BB6 := hide (below_next BB5.out hb6)
            clear hb6
            go_wp2_with fail
            refine hK.out _ _ (KC.out _ BB6.out).1 (fun hHeld => ?_)
            clear hK K
            refine wpAnyH_take (i := 25) (oi := { dst := some 114, op := _, type := _, pos := _, after := _, guard := _ }) (v := .bool true) rfl (by kernel_rfl) (by kernel_rfl) (by kernel_rfl) (fun _ _ _ h => h) (Or.inl ⟨by rfl, ?_⟩) hHeld ?_
            · intro w hSw
              go_simp
            try simp only [Act.put, List.setIfInBounds_toArray, List.set_cons_zero, List.set_cons_succ]
            refine wpAnyH_take (i := 26) (oi := { dst := some 2, op := _, type := _, pos := _, after := _, guard := _ }) (v := .bool true) rfl (by kernel_rfl) (by kernel_rfl) (by kernel_rfl) (fun _ _ _ h => h) (Or.inl ⟨by rfl, ?_⟩) hHeld ?_
            · intro w hSw
              go_simp
            try simp only [Act.put, List.setIfInBounds_toArray, List.set_cons_zero, List.set_cons_succ]
            refine wpAnyH_done (by kernel_rfl) ?_ _
            go_wp2_with fail
            go_ret
            exact ⟨rfl, below_next BF.out BB6.out⟩
          · rw [decide_eq_false h47] at hs47
            have hRP := HRR.out h47
            by_cases hn0 : ns.length = 0
            · have hRP0 : RP = 0 := by rw [hRP, if_pos hn0]
              have hb0 : ((ns.length : Int) == 0) = true := by simp [hn0]
              subst hRP0
              clear hn0 h47 HRR hRP
              go_region_held3 (fun w' => w'.cell? ⟨b2, 1, none⟩ = some (.slice nv ns.length nc) ∧ w'.cell? ⟨b4, 1, none⟩ = some (.int .i64 0)) (first | exact KC.out _ BB5.out | exact KC.out _ BB6.out | go_keep)
                ((first
                  | (go_at_call 7; refine (HSP4.out _ (Below.refl _ _).drew).mono ?_; rintro r w5 ⟨av5, cv5, rfl, ho5, hb5⟩; have O5 := hide (OwnS.mono ho5 (Nat.le_refl W4.heap.size)); have BB5 := hide ((Below.refl W4.heap.size W4).drew.trans hb5); clear hb5 ho5)
                  | (go_at_call 11; refine (HLW.out _ _ _ BB5.out O5.out).mono ?_; rintro r w6 ⟨rfl, hb6⟩; have BB6 := hide (below_next BB5.out hb6); clear hb6)))
              go_wp2_with fail
              go_ret
              exact ⟨rfl, below_next BF.out BB6.out⟩
            · have hRP0 : RP = 1 := by rw [hRP, if_neg hn0]
              have hb0 : ((ns.length : Int) == 0) = false := beq_eq_false_iff_ne.2 (by omega)
              subst hRP0
              clear hn0 h47 HRR hRP
              go_region_held3 (fun w' => w'.cell? ⟨b2, 1, none⟩ = some (.slice nv ns.length nc) ∧ w'.cell? ⟨b4, 1, none⟩ = some (.int .i64 1)) (first | exact KC.out _ BB5.out | exact KC.out _ BB6.out | go_keep)
                ((first
                  | (go_at_call 7; refine (HSP4.out _ (Below.refl _ _).drew).mono ?_; rintro r w5 ⟨av5, cv5, rfl, ho5, hb5⟩; have O5 := hide (OwnS.mono ho5 (Nat.le_refl W4.heap.size)); have BB5 := hide ((Below.refl W4.heap.size W4).drew.trans hb5); clear hb5 ho5)
                  | (go_at_call 11; refine (HLW.out _ _ _ BB5.out O5.out).mono ?_; rintro r w6 ⟨rfl, hb6⟩; have BB6 := hide (below_next BB5.out hb6); clear hb6)))
              go_wp2_with fail
              go_ret
              exact ⟨rfl, below_next BF.out BB6.out⟩
    · have hne : (listC es p != 0) = true := by simp; exact hz
      clear hz
      generalize listC es p = F at *
      generalize listL es p = LL at *
      go_wp2_with fail
      generalize w2.alloc (.cells #[.int .i64 F, .slice nv LL.length nc] 29) = W2 at *
      generalize w2.heap.size = b2 at *
      obtain ⟨⟨t0, t1⟩, t2, t3⟩ := X2.out
      have hFF : (F == F) = true := by simp
      have hfd : ∀ (a : Option Addr) (c : Nat) (w : World), (Instr.field 29 (.agg #[.int .i64 F, .slice a LL.length c]) 0).run Tryz.prog w = .ok (.int .i64 F) w := fun _ _ _ => by kernel_rfl
      go_wp2_with fail
      go_region_held3 (fun w' => w'.cell? ⟨b2, 0, none⟩ = some (.int .i64 F)) (first | exact (X2.out.below BB5.out).1.1 | go_keep)
        ((first
          | (go_at_call 7; refine (HSP.out _ (below_next BW2.out (Below.refl _ _).drew)).mono ?_; rintro r w5 ⟨av5, cv5, rfl, -, hb5⟩; have BB5 := hide ((Below.refl W2.heap.size W2).drew.trans hb5); clear hb5)))
      go_wp2_with fail
      go_ret
      exact ⟨rfl, below_next B2.out BB5.out⟩

set_option maxRecDepth 100000 in
theorem lifted (os : Os) (started : os.Started) (H : Type) (enc : TypeId × Value → H) :
    ReturnsInHanded {} Tryz.checked os 3 .any (Rows.fnListsSpec.pre6 enc Tryz.prog Tryz.f3 Rows.fnListsRow.domain false) (Rows.fnListsSpec.post enc Tryz.prog Tryz.f3 false true false false) := by
  refine returnsInHanded_of_change (C := Tryz.checked) own started (by kernel_rfl) Tryz.func3
    (ChangeSpec.witness6 (enc := enc) (C := Tryz.checked) false ⟨#[], #[.slice none 0 0], []⟩ 8 (by kernel_rfl) (by kernel_rfl) (by kernel_rfl) (by kernel_rfl)) ?_
  intro W base args ds gs before hval0 hW hcnd _
  have hval : ∀ (j : Nat) t v, Tryz.f3.params[j]? = some t → args[j]? = some v → Value.okWide Tryz.prog W .any base t v := hval0
  have hW' := hW
  obtain ⟨p, q, hA0, hV, rfl, hfz, hnd⟩ := hW
  have hA : DataW.TrodAll enc Tryz.prog W 0 (fun _ => true) true Tryz.f3.params.toList args.toList ds p := hA0
  rw [Tryz.params3] at hA hval
  obtain ⟨v0, vs0, d0, ds0, p0, q0, hargs, rfl, rfl, h0, r0⟩ := trodAll_cons hA
  obtain ⟨rfl, rfl, rfl⟩ := trodAll_nil r0
  obtain rfl : args = #[v0] := by cases args; simp_all
  obtain ⟨rfl, rfl⟩ := trodVars_none hV
  obtain ⟨a0, len0, cap0, rfl⟩ := okWide_slice Tryz.underlying22 (hval 0 22 v0 rfl rfl)
  have k0 := h0
  have lt0 : ∀ x ∈ p0, x.block < W.heap.size := by obtain ⟨m, hm⟩ := k0; exact DataW.trod_lt m _ _ _ hm
  obtain ⟨zs, hlen, hread, hu, hmax⟩ : ∃ zs : List Int, zs.length = len0 ∧ Reads .u8 W a0 zs ∧ U8 zs ∧ zs.length ≤ maxLen := by
    obtain ⟨fuel, hf⟩ := h0
    rcases open_ints Tryz.underlying22 Tryz.underlying5 (by kernel_rfl) hf with ⟨hcs, _⟩ | ⟨x, l, c, zs, hcs, _, hl, hm, hz, _, hcell, hwz⟩
    · simp [Value.cells] at hcs
      obtain ⟨rfl, rfl, rfl⟩ := hcs
      exact ⟨[], rfl, fun h => absurd rfl h, fun z hz => by simp at hz, Nat.zero_le _⟩
    · simp [Value.cells] at hcs
      obtain ⟨rfl, rfl, rfl⟩ := hcs
      exact reads_of_row (by simpa using hz) hl hm hcell hwz
  subst hlen
  clear hA0 hval0
  refine (walk a0 cap0 zs W hread hu hmax).mono fun e W' ⟨he, bel⟩ => ?_
  subst he
  exact ⟨_, rfl, _, _, _, [], _, [], hW', trodAll_mk1 (shut_bool Tryz.underlying4 _), (trodAll_cons_mk (Below.trod laidOut (by kernel_rfl) (of_decide_eq_true (by kernel_rfl)) k0 bel lt0) trodAll_mk0), rfl, bel.frame _, fun h => by cases h⟩

theorem over : Rows.fnListsRow.holds Tryz.pinned (OpenSpec.ofChange Rows.fnListsSpec) :=
  OpenClaim.holds_of_wide 3 Tryz.f3 rfl rfl rfl rfl rfl rfl rfl ⟨rfl, rfl, rfl, rfl, rfl⟩ rfl rfl rfl rfl rfl (by kernel_rfl) Tryz.func3 (by kernel_rfl)
    (of_decide_eq_true (by kernel_rfl)) (by unfold Func.isWrapper; first | (rw [if_pos (by decide +kernel)]; kernel_rfl) | (rw [if_neg (by decide +kernel)]; exact ⟨rfl, rfl⟩))
    (fun os started H enc _ => lifted os started H enc)

end Go.Proofs.YtbdbhdgfifojoabGreat.fnLists
namespace Go.Proofs.YtbdbhdgfifojoabGreat
theorem fnLists_holds : Rows.FnListsSaid := fnLists.over
#print axioms fnLists_holds
end Go.Proofs.YtbdbhdgfifojoabGreat
