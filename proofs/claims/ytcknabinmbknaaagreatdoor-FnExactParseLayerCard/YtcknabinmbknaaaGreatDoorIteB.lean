/-
  The program's faults of a layer.
-/
import Derived.Test.YtcknabinmbknaaaGreatDoorJ1
import Derived.Test.YtcknabinmbknaaaGreatDoorLayQ
import Derived.Test.YtcknabinmbknaaaGreatDoorPathQ
namespace Go.Proofs.YtcknabinmbknaaaGreatDoor
open Go.RowKit
set_option linter.unusedVariables false

theorem hasDir_cons (es : List En) (q : Bs) (k : Nat) {e : En} (h : es[k]? = some e) : hasDir (es.drop k) q = ((decide (e.path = q) && dirK e.kind) || hasDir (es.drop (k + 1)) q) := by
  rw [drop_at h]; simp [hasDir]

set_option maxRecDepth 100000 in
set_option maxHeartbeats 1600000 in
theorem parentFault_any (a : Option Addr) (c n : Nat) (es : List En) (p : Bs) (w : World) (h : RdE w a es) (hn : n = es.length) (hl : es.length ≤ 1048576) (hf : faultP p = 0) (hp : p.length ≤ 1048576) :
    Calls Tryz.prog 66 #[.slice a n c, .string (str p)] w fun r w' => r = .returned (.int .i64 (if homeP es p then 0 else 9)) ∧ Below w.heap.size w w' := by
  subst hn
  have HR := hide h
  clear h
  obtain ⟨F, hF⟩ : ∃ F : Int, F = if homeP es p then 0 else 9 := ⟨_, rfl⟩
  rw [← hF]
  by_cases h0 : parentP p = []
  · have HE := hide (show F = 0 from by rw [hF]; simp [homeP, h0])
    have HP := hide (par_none hf (parentP_nil.1 h0))
    clear h0 hf hF
    go_enter Tryz.func66, Tryz.ntmps66
    go_wp2_with fail
    refine (implParentOf_any _ _ (by rw [str_size]; omega)).mono ?_
    rintro r w1 ⟨rfl, hb1⟩
    rw [str_data, HP.out.1, HP.out.2]
    have HB1 := hide (below_next hb1 (below_alloc w1 (.cells #[.int .i64 4, .string (str [])] 35)))
    clear hb1
    go_wp2_with fail
    go_ret
    exact ⟨ret_int HE.out.symm, HB1.out⟩
  · have HE := hide (show F = if hasDir es (parentP p) then 0 else 9 from by rw [hF]; simp [homeP, h0])
    have HP := hide (par_good hf (fun e => h0 (parentP_nil.2 e)))
    have HQ : Hid (parT p = parentP p) := hide HP.out.2
    clear h0 hf hF
    go_enter Tryz.func66, Tryz.ntmps66
    go_wp2_with fail
    refine (implParentOf_any _ _ (by rw [str_size]; omega)).mono ?_
    rintro r w1 ⟨rfl, hb1⟩
    rw [str_data, HP.out.1, HQ.out]
    generalize parentP p = q at *
    have X1 := hide (Box.new w1 (.int .i64 0) (.string (str q)) 35)
    have HB1 := hide (below_next hb1 (below_alloc w1 (.cells #[.int .i64 0, .string (str q)] 35)))
    clear hb1 HP HQ
    go_wp2_with fail
    generalize w1.alloc (.cells #[.int .i64 0, .string (str q)] 35) = W1 at *
    generalize w1.heap.size = b1 at *
    go_loopw [15] (fun i wr => ∃ k : Nat, k ≤ es.length ∧ i = .int .i64 k ∧ Hid (hasDir es q = hasDir (es.drop k) q) ∧ Hid (Below W1.heap.size W1 wr)) (fun i _ => es.length - (intOf i).toNat)
    case atStart => exact ⟨0, Nat.zero_le _, rfl, hide (by simp), hide (Below.refl _ _)⟩
    case round =>
      obtain ⟨k, hk, rfl, HF, HW⟩ := hrel
      have HR1 := hide (HR.out.below (below_next HB1.out HW.out))
      obtain ⟨⟨t0, t1⟩, t2, t3⟩ := X1.out.below HW.out
      by_cases hlt : k < es.length
      · obtain ⟨b, off, e, x, cc, rfl, hb, he, c0, c1, c2, c3, hr⟩ := HR1.out.at hlt
        have HX := hide he
        clear he hr
        have HF2 := hide (HF.out.trans (hasDir_cons es q k HX.out))
        have hb1w : b1 < wr.heap.size := World.block_lt_of_cell? _ _ t0
        by_cases hq : e.path = q
        · have hs1 := str_yes hq
          cases hd : dirK e.kind
          · have HO := hide (show hasDir es q = hasDir (es.drop (k + 1)) q from by rw [HF2.out]; simp [hd])
            have HD := hide hd
            clear hd hq
            go_wp2_with fail
            refine (itemOf_any _ _ _ _ _ _ _).mono ?_
            rintro r w3 ⟨rfl, hb3⟩
            go_wp2_with fail
            refine (isDir_any _ _ _ _ _ _ _).mono ?_
            rintro r w4 ⟨rfl, hb4⟩
            rw [HD.out]
            have HW4 := hide (below_next HW.out (below_next (below_alloc wr _) (below_next hb3 hb4)))
            clear hb3 hb4
            go_wp2_with fail
            go_roundw
            case rel => exact ⟨k + 1, by omega, by go_num, HO, HW4⟩
            case measure => simp [intOf]; omega
          · have HO := hide (show hasDir es q = true from by rw [HF2.out]; simp [hd, hq])
            have HD := hide hd
            clear hd hq
            go_wp2_with fail
            refine (itemOf_any _ _ _ _ _ _ _).mono ?_
            rintro r w3 ⟨rfl, hb3⟩
            go_wp2_with fail
            refine (isDir_any _ _ _ _ _ _ _).mono ?_
            rintro r w4 ⟨rfl, hb4⟩
            rw [HD.out]
            have HW4 := hide (below_next HW.out (below_next (below_alloc wr _) (below_next hb3 hb4)))
            clear hb3 hb4
            go_wp2_with fail
            go_ret
            exact ⟨ret_int (by rw [HE.out, HO.out]; rfl), below_next HB1.out HW4.out⟩
        · have hs1 := str_no hq
          have HO := hide (show hasDir es q = hasDir (es.drop (k + 1)) q from by rw [HF2.out]; simp [hq])
          clear hq
          go_wp2_with fail
          go_roundw
          case rel => exact ⟨k + 1, by omega, by go_num, HO, hide (below_next HW.out (below_alloc wr _))⟩
          case measure => simp [intOf]; omega
      · have HO := hide (show hasDir es q = false from by rw [HF.out, List.drop_eq_nil_of_le (by omega)]; rfl)
        go_wp2_with fail
        go_ret
        exact ⟨ret_int (by rw [HE.out, HO.out]; rfl), below_next HB1.out HW.out⟩

set_option maxRecDepth 100000 in
set_option maxHeartbeats 1600000 in
theorem entriesFault_any (a : Option Addr) (c n : Nat) (es : List En) (w : World) (h : RdE w a es) (hn : n = es.length) (hl : es.length ≤ 1048576) (hs : SmallE es) :
    Calls Tryz.prog 36 #[.slice a n c] w fun r w' => r = .returned (.int .i64 (layFromH (homeP es) none es)) ∧ Below w.heap.size w w' := by
  subst hn
  obtain ⟨F, hF⟩ : ∃ F : Int, F = layFromH (homeP es) (prevE es 0) (es.drop 0) := ⟨_, rfl⟩
  have e0 : layFromH (homeP es) none es = F := by rw [hF]; simp [prevE]
  rw [e0]
  have HE := hide hF
  have HR := hide h
  have HS := hide hs
  clear h hs e0 hF
  go_enter Tryz.func36, Tryz.ntmps36
  go_wp2_with fail
  go_loopw [9] (fun i wr => ∃ k : Nat, k ≤ es.length ∧ i = .int .i64 k ∧ Hid (F = layFromH (homeP es) (prevE es k) (es.drop k)) ∧ Hid (Below w.heap.size w wr)) (fun i _ => es.length - (intOf i).toNat)
  case atStart => exact ⟨0, Nat.zero_le _, rfl, HE, hide (Below.refl _ _)⟩
  case round =>
    obtain ⟨k, hk, rfl, HF, HW⟩ := hrel
    have HR1 := hide (HR.out.below HW.out)
    by_cases hlt : k < es.length
    · obtain ⟨b, off, e, x, cc, rfl, hb, he, c0, c1, c2, c3, hr⟩ := HR1.out.at hlt
      have HX := hide he
      have HRc := hide (hr.below (below_alloc wr (.cells #[.string (str e.path), .int .i64 e.kind, .int .i64 e.size, .slice x e.chunks.length cc] 39)))
      have hsm := HS.out e (List.mem_of_getElem? he)
      have HN := hide (below_next HW.out (below_alloc wr (.cells #[.string (str e.path), .int .i64 e.kind, .int .i64 e.size, .slice x e.chunks.length cc] 39)))
      have F4 := hide (Four.new wr (.string (str e.path)) (.int .i64 e.kind) (.int .i64 e.size) (.slice x e.chunks.length cc) 39)
      clear he hr
      go_wp2_with fail
      clear c0 c1 c2 c3
      generalize wr.alloc (.cells #[.string (str e.path), .int .i64 e.kind, .int .i64 e.size, .slice x e.chunks.length cc] 39) = W1 at *
      generalize wr.heap.size = b1 at *
      refine (implEntryFault_any e _ _ _ _ HRc.out rfl hsm.1 hsm.2).mono ?_
      rintro r w1 ⟨rfl, hb1⟩
      obtain ⟨f0, f1, f2, f3⟩ := F4.out.below hb1
      have HW1 := hide (below_next HN.out hb1)
      have HR2 := hide (HR.out.below HW1.out)
      clear hb1 HRc F4 HN HR1 HW
      by_cases hz : entFault e = 0
      · have hpz := entFault_zero hz
        have HPZ := hide hpz
        have HZ := hide hz
        rw [hz]
        clear hz hpz
        cases k with
        | zero =>
          have HL := hide (show lowE (prevE es 0) e = false from rfl)
          go_wp2_with fail
          go_quiet (fail)
          go_wp2_with fail
          have HW2 := hide (below_drewN HW1.out nq)
          have HR3 := hide (HR2.out.below (below_drewN (Below.refl w1.heap.size w1) nq))
          clear HW1 HR2
          generalize w1.drewN nq = W at *
          refine (parentFault_any _ c es.length es e.path W HR3.out rfl hl HPZ.out hsm.1).mono ?_
          rintro r w4 ⟨rfl, hb4⟩
          have HW3 := hide (below_next HW2.out hb4)
          clear hb4
          cases hh : homeP es e.path
          · have HO := hide (layH_home HF.out HX.out HZ.out HL.out hh)
            clear hh
            go_wp2_with fail
            go_ret
            exact ⟨ret_int HO.out.symm, HW3.out⟩
          · have HO := hide (layH_next HF.out HX.out HZ.out HL.out hh)
            clear hh
            go_wp2_with fail
            go_roundw
            case rel => exact ⟨1, by omega, by go_num, HO, HW3⟩
            case measure => simp [intOf]; omega
        | succ j =>
          have hg : (0 : Int) < ((j + 1 : Nat) : Int) := by omega
          obtain ⟨b2, off2, e2, x2, cc2, hbb, hb2, he2, d0, d1, d2, d3, hr2⟩ := HR2.out.at (show j < es.length by omega)
          simp only [Option.some.injEq, Addr.mk.injEq, and_true] at hbb
          obtain ⟨rfl, rfl⟩ := hbb
          have HL := hide (show lowE (prevE es (j + 1)) e = (Op.bytesLess e.path e2.path || (e.path == e2.path)) from by simp [prevE, lowE, he2])
          clear he2 d1 d2 d3 hr2
          cases hlow : (Op.bytesLess (str e.path).toList (str e2.path).toList || ((str e.path).toList == (str e2.path).toList))
          · have HL2 := hide (show lowE (prevE es (j + 1)) e = false from by rw [HL.out]; rw [str_toList, str_toList] at hlow; exact hlow)
            go_wp2_with fail
            go_quiet (fail)
            go_wp2_with fail
            have HW2 := hide (below_drewN HW1.out nq)
            have HR3 := hide (HR2.out.below (below_drewN (Below.refl w1.heap.size w1) nq))
            clear HW1 HR2
            generalize w1.drewN nq = W at *
            refine (parentFault_any _ c es.length es e.path W HR3.out rfl hl HPZ.out hsm.1).mono ?_
            rintro r w4 ⟨rfl, hb4⟩
            have HW3 := hide (below_next HW2.out hb4)
            clear hb4
            cases hh : homeP es e.path
            · have HO := hide (layH_home HF.out HX.out HZ.out HL2.out hh)
              clear hh
              go_wp2_with fail
              go_ret
              exact ⟨ret_int HO.out.symm, HW3.out⟩
            · have HO := hide (layH_next HF.out HX.out HZ.out HL2.out hh)
              clear hh
              go_wp2_with fail
              go_roundw
              case rel => exact ⟨j + 1 + 1, by omega, by go_num, HO, HW3⟩
              case measure => simp [intOf]; omega
          · have HL2 := hide (show lowE (prevE es (j + 1)) e = true from by rw [HL.out]; rw [str_toList, str_toList] at hlow; exact hlow)
            have HO := hide (layH_low HF.out HX.out HZ.out HL2.out)
            go_wp2_with fail
            go_quiet (fail)
            go_wp2_with fail
            go_ret
            exact ⟨ret_int HO.out.symm, below_drewN HW1.out _⟩
      · have HZ := hide (layH_bad HF.out HX.out hz)
        have hz2 : (entFault e != 0) = true := by simp; exact hz
        clear hz
        go_wp2_with fail
        go_ret
        exact ⟨ret_int HZ.out.symm, HW1.out⟩
    · have HZ := hide (layH_end HF.out (by omega))
      go_wp2_with fail
      go_ret
      exact ⟨ret_int HZ.out.symm, HW.out⟩

set_option maxRecDepth 100000 in
theorem implLayerFault_any (a : Option Addr) (c n : Nat) (es : List En) (w : World) (h : RdE w a es) (hn : n = es.length) (hl : es.length ≤ 1048576) (hs : SmallE es) :
    Calls Tryz.prog 13 #[.slice a n c] w fun r w' => r = .returned (.int .i64 (layFaultP es)) ∧ Below w.heap.size w w' := by
  subst hn
  by_cases hm : 12 < es.length
  · have HE := hide (layFaultP_many hm)
    have hm2 : (12 : Int) < (es.length : Int) := by omega
    clear h hs
    go_enter Tryz.func13, Tryz.ntmps13
    go_wp2_with fail
    go_ret
    exact ⟨ret_int HE.out.symm, Below.refl _ _⟩
  · have HE : Hid (layFaultP es = layFromH (homeP es) none es) := hide (by simp [layFaultP, hm])
    have hm2 : ¬ (12 : Int) < (es.length : Int) := by omega
    have HF := hide (entriesFault_any a c es.length es w h rfl hl hs)
    clear h hs hm
    generalize layFaultP es = F at HE ⊢
    go_enter Tryz.func13, Tryz.ntmps13
    go_wp2_with fail
    refine HF.out.mono ?_
    rintro r w1 ⟨rfl, hb⟩
    have HB := hide hb
    clear hb
    go_wp2_with fail
    go_ret
    exact ⟨ret_int HE.out.symm, HB.out⟩

/-- What the program answers to a layer and a path. -/
def askP (es : List En) (p : Bs) : Int := if layFaultP es = 0 then faultP p else layFaultP es

end Go.Proofs.YtcknabinmbknaaaGreatDoor
