/-
  The model's layers: the place of a path, home, the fault of a layer.
-/
import Derived.Test.YtcnoabkpilmanaaEntF
namespace Go.Proofs.Ytcnoabkpilmanaa
open Go.RowKit
set_option linter.unusedVariables false

/-- The place of the first entry of a path. -/
def atE (es : List En) (p : Bs) : Option Nat := es.findIdx? fun e => decide (e.path = p)

theorem str_toList (a : Bs) : (str a).toList = a := by rw [ByteArray.toList_eq, str_data]
theorem str_yes {a b : Bs} (h : a = b) : ((str a).toList == (str b).toList) = true := by rw [h]; simp
theorem str_no {a b : Bs} (h : a ≠ b) : ((str a).toList == (str b).toList) = false := by rw [str_toList, str_toList, beq_eq_false_iff_ne]; exact h
theorem str_beq (a b : Bs) : ((str a).toList == (str b).toList) = decide (a = b) := by
  by_cases h : a = b
  · rw [str_yes h, decide_eq_true h]
  · rw [str_no h, decide_eq_false h]
def placeI (o : Option Nat) : Int := match o with | some i => (i : Int) | none => -1
theorem drop_at {α : Type} {es : List α} {k : Nat} {e : α} (h : es[k]? = some e) : es.drop k = e :: es.drop (k + 1) := by
  obtain ⟨hk, he⟩ := List.getElem?_eq_some_iff.1 h
  rw [List.drop_eq_getElem_cons hk, he]
theorem atE_hit {es : List En} {p : Bs} {k : Nat} {e : En} (h : es[k]? = some e) (hi : atE es p = (atE (es.drop k) p).map (· + k)) (hp : e.path = p) : atE es p = some k := by
  rw [hi, drop_at h]; simp [atE, List.findIdx?_cons, hp]
theorem atE_miss {es : List En} {p : Bs} {k : Nat} {e : En} (h : es[k]? = some e) (hi : atE es p = (atE (es.drop k) p).map (· + k)) (hp : e.path ≠ p) : atE es p = (atE (es.drop (k + 1)) p).map (· + (k + 1)) := by
  rw [hi, drop_at h]
  simp only [atE, List.findIdx?_cons, hp, decide_false, Bool.false_eq_true, if_false, Option.map_map]
  congr 1
  funext x
  simp only [Function.comp]
  omega
theorem atE_end {es : List En} {p : Bs} {k : Nat} (hk : es.length ≤ k) (hi : atE es p = (atE (es.drop k) p).map (· + k)) : atE es p = none := by
  rw [hi, List.drop_eq_nil_of_le hk]; rfl
theorem atE_find (es : List En) (p : Bs) : findE es p = (atE es p).bind (fun i => es[i]?) := by
  unfold findE atE
  induction es with
  | nil => rfl
  | cons e r ih =>
    by_cases h : e.path = p
    · simp [List.findIdx?_cons, h]
    · simp only [List.findIdx?_cons, List.find?_cons, h, decide_false, Bool.false_eq_true, if_false, ih]
      cases List.findIdx? (fun e => decide (e.path = p)) r <;> simp
theorem atE_lt {es : List En} {p : Bs} {k : Nat} (h : atE es p = some k) : k < es.length := by
  unfold atE at h
  exact (List.findIdx?_eq_some_iff_getElem.1 h).1

set_option maxRecDepth 100000 in
set_option maxHeartbeats 800000 in
theorem l4At_any (a : Option Addr) (c n : Nat) (es : List En) (p : Bs) (w : World) (h : RdE w a es) (hn : n = es.length) (hl : es.length ≤ 1048576) :
    Calls Try.prog 25 #[.slice a n c, .string (str p)] w fun r w' => r = .returned (.int .i64 (placeI (atE es p))) ∧ w' = w := by
  subst hn
  have HR := hide h
  clear h
  go_enter Try.func25, Try.ntmps25
  go_wp2_with fail
  go_loop [5] (fun i => ∃ k : Nat, k ≤ es.length ∧ i = .int .i64 k ∧ Hid (atE es p = (atE (es.drop k) p).map (· + k))) (fun i => es.length - (intOf i).toNat)
  case atStart => exact ⟨0, Nat.zero_le _, rfl, hide (by simp)⟩
  case round =>
    obtain ⟨k, hk, rfl, HA⟩ := hrel
    by_cases hlt : k < es.length
    · obtain ⟨b, off, e, x, cc, rfl, hb, he, c0, c1, c2, c3, hr⟩ := HR.out.at hlt
      have HX := hide he
      clear he hr
      by_cases hp : e.path = p
      · have HE := hide (atE_hit HX.out HA.out hp)
        have hs := str_yes hp
        clear hp
        go_wp2_with fail
        go_ret
        exact ⟨ret_int (by rw [HE.out]; rfl), rfl⟩
      · have HE := hide (atE_miss HX.out HA.out hp)
        have hs := str_no hp
        clear hp
        go_wp2_with fail
        go_round
        case rel => exact ⟨k + 1, by omega, by go_num, HE⟩
        case measure => simp [intOf]; omega
    · have HE := hide (atE_end (by omega) HA.out)
      go_wp2_with fail
      go_ret
      exact ⟨ret_int (by rw [HE.out]; rfl), rfl⟩
theorem l4IsDir_any (b o : Nat) (k : Int) (w : World) (h : w.cell? ⟨b, o + 1, none⟩ = some (.int .i64 k)) :
    Calls Try.prog 26 #[.pointer (some ⟨b, o, none⟩)] w fun r w' => r = .returned (.bool (dirK k)) ∧ w' = w := by
  by_cases h2 : k = 2
  · have hk : dirK k = true := by simp [dirK, h2]
    rw [hk]
    subst h2
    go_enter Try.func26, Try.ntmps26
    go_wp2_with fail
    go_ret
    exact ⟨rfl, rfl⟩
  · have hk : dirK k = (k == 4) := by simp [dirK, h2]; rfl
    have hf : (k == 2) = false := by simp; exact h2
    rw [hk]
    go_enter Try.func26, Try.ntmps26
    go_wp2_with fail
    go_ret
    exact ⟨rfl, rfl⟩
theorem homeE_top {es : List En} {p : Bs} (h : parentP p = []) : homeE es p = true := by simp [homeE, h]
theorem homeE_none {es : List En} {p : Bs} (h : parentP p ≠ []) (ha : atE es (parentP p) = none) : homeE es p = false := by simp [homeE, h, atE_find, ha]
theorem homeE_some {es : List En} {p : Bs} {k : Nat} {e : En} (h : parentP p ≠ []) (ha : atE es (parentP p) = some k) (he : es[k]? = some e) : homeE es p = dirK e.kind := by simp [homeE, h, atE_find, ha, he]
theorem str_empty (a : Bs) : (str a).toList.isEmpty = decide (a = []) := by rw [str_toList]; cases a <;> rfl

set_option maxRecDepth 100000 in
set_option maxHeartbeats 800000 in
theorem l4Home_any (a : Option Addr) (c n : Nat) (es : List En) (p : Bs) (w : World) (h : RdE w a es) (hn : n = es.length) (hl : es.length ≤ 1048576) (h1 : 1 ≤ p.length) (hp : p.length ≤ 1048576) :
    Calls Try.prog 21 #[.slice a n c, .string (str p)] w fun r w' => r = .returned (.bool (homeE es p)) ∧ Below w.heap.size w w' := by
  subst hn
  have HR := hide h
  clear h
  have HP := hide (show (aboveN (cutB (str p).data.toList.tail)).getLastD [] = parentP p from by rw [str_data]; rfl)
  by_cases hq : parentP p = []
  · have HE := hide (homeE_top (es := es) hq)
    have hs := (str_empty (parentP p)).trans (decide_eq_true hq)
    clear hq
    go_enter Try.func21, Try.ntmps21
    go_wp2_with fail
    refine (l3Parent_any _ _ (by rw [str_size]; omega) (by rw [str_size]; omega)).mono ?_
    rintro r w1 ⟨rfl, hb⟩
    rw [HP.out]
    have HB := hide hb
    clear hb
    go_wp2_with fail
    go_ret
    exact ⟨by rw [HE.out]; rfl, HB.out⟩
  · have hs := (str_empty (parentP p)).trans (decide_eq_false hq)
    cases ha : atE es (parentP p) with
    | none =>
      have HE := hide (homeE_none hq ha)
      have HA := hide ha
      clear hq ha
      go_enter Try.func21, Try.ntmps21
      go_wp2_with fail
      refine (l3Parent_any _ _ (by rw [str_size]; omega) (by rw [str_size]; omega)).mono ?_
      rintro r w1 ⟨rfl, hb⟩
      rw [HP.out]
      have HB := hide hb
      have HR1 := hide (HR.out.below hb)
      clear hb
      go_wp2_with fail
      refine (l4At_any _ _ _ es _ _ HR1.out rfl hl).mono ?_
      rintro r w2 ⟨rfl, rfl⟩
      rw [HA.out]
      simp only [placeI]
      go_wp2_with fail
      go_ret
      exact ⟨by rw [HE.out]; rfl, HB.out⟩
    | some k =>
      have hk := atE_lt ha
      obtain ⟨e, he⟩ : ∃ e, es[k]? = some e := ⟨es[k], List.getElem?_eq_getElem hk⟩
      have HE := hide (homeE_some hq ha he)
      have HA := hide ha
      have HX := hide he
      clear hq ha he
      go_enter Try.func21, Try.ntmps21
      go_wp2_with fail
      refine (l3Parent_any _ _ (by rw [str_size]; omega) (by rw [str_size]; omega)).mono ?_
      rintro r w1 ⟨rfl, hb⟩
      rw [HP.out]
      have HB := hide hb
      have HR1 := hide (HR.out.below hb)
      clear hb
      go_wp2_with fail
      refine (l4At_any _ _ _ es _ _ HR1.out rfl hl).mono ?_
      rintro r w2 ⟨rfl, rfl⟩
      rw [HA.out]
      simp only [placeI]
      obtain ⟨b, off, e', x, cc, rfl, hbl, he', c0, c1, c2, c3, hr⟩ := HR1.out.at hk
      have : e' = e := Option.some.inj (he'.symm.trans HX.out)
      subst this
      clear he' hr
      go_wp2_with fail
      refine (l4IsDir_any _ _ _ _ c1).mono ?_
      rintro r w3 ⟨rfl, rfl⟩
      go_wp2_with fail
      go_ret
      exact ⟨by rw [HE.out]; rfl, HB.out⟩

theorem entFault_zero {e : En} (h : entFault e = 0) : faultP e.path = 0 := by
  by_cases hf : faultP e.path = 0
  · exact hf
  · rw [entFault_path hf] at h; exact absurd h hf
theorem faultP_nil : faultP [] ≠ 0 := by decide
theorem path_pos {p : Bs} (h : faultP p = 0) : 1 ≤ p.length := by
  cases p with
  | nil => exact absurd h faultP_nil
  | cons c r => simp
theorem layFault_many {es : List En} (h : 12 < es.length) : layFault es = 2 := by simp [layFault, h]
theorem layFault_few {es : List En} (h : ¬ 12 < es.length) : layFault es = layFrom es (prevE es 0) (es.drop 0) := by simp [layFault, h, prevE]
theorem layFrom_bad {es : List En} {k : Nat} {e : En} {F : Int} (hF : F = layFrom es (prevE es k) (es.drop k)) (he : es[k]? = some e) (h : entFault e ≠ 0) : F = entFault e := by
  have hb : entBad es (prevE es k) e = entFault e := by simp [entBad, h]
  rw [hF, layFrom_step he, hb, if_neg h]
theorem layFrom_low {es : List En} {k : Nat} {e : En} {F : Int} (hF : F = layFrom es (prevE es k) (es.drop k)) (he : es[k]? = some e) (h : entFault e = 0) (hl : lowE (prevE es k) e = true) : F = 1 := by
  have hb : entBad es (prevE es k) e = 1 := by simp [entBad, h, hl]
  rw [hF, layFrom_step he, hb]; rfl
theorem layFrom_home {es : List En} {k : Nat} {e : En} {F : Int} (hF : F = layFrom es (prevE es k) (es.drop k)) (he : es[k]? = some e) (h : entFault e = 0) (hl : lowE (prevE es k) e = false) (hh : homeE es e.path = false) : F = 9 := by
  have hb : entBad es (prevE es k) e = 9 := by simp [entBad, h, hl, hh]
  rw [hF, layFrom_step he, hb]; rfl
theorem layFrom_next {es : List En} {k : Nat} {e : En} {F : Int} (hF : F = layFrom es (prevE es k) (es.drop k)) (he : es[k]? = some e) (h : entFault e = 0) (hl : lowE (prevE es k) e = false) (hh : homeE es e.path = true) : F = layFrom es (prevE es (k + 1)) (es.drop (k + 1)) := by
  have hb : entBad es (prevE es k) e = 0 := by simp [entBad, h, hl, hh]
  rw [hF, layFrom_step he, hb]; rfl
theorem layFrom_end {es : List En} {k : Nat} {F : Int} (hF : F = layFrom es (prevE es k) (es.drop k)) (hk : es.length ≤ k) : F = 0 := by
  rw [hF, List.drop_eq_nil_of_le hk]; cases prevE es k <;> rfl

set_option maxRecDepth 100000 in
set_option maxHeartbeats 1600000 in
theorem l4Fault_any (a : Option Addr) (c n : Nat) (es : List En) (w : World) (h : RdE w a es) (hn : n = es.length) (hl : es.length ≤ 1048576) (hs : SmallE es) :
    Calls Try.prog 10 #[.slice a n c] w fun r w' => r = .returned (.int .i64 (layFault es)) ∧ Below w.heap.size w w' := by
  subst hn
  by_cases hm : 12 < es.length
  · have HE := hide (layFault_many hm)
    have hm2 : (12 : Int) < (es.length : Int) := by omega
    go_enter Try.func10, Try.ntmps10
    go_wp2_with fail
    go_ret
    exact ⟨ret_int HE.out.symm, Below.refl _ _⟩
  · have HE := hide (layFault_few hm)
    have hm2 : ¬ (12 : Int) < (es.length : Int) := by omega
    generalize layFault es = F at HE ⊢
    have HR := hide h
    have HS := hide hs
    clear h hs
    go_enter Try.func10, Try.ntmps10
    go_wp2_with fail
    go_loopw [3] (fun i wr => ∃ k : Nat, k ≤ es.length ∧ i = .int .i64 k ∧ Hid (F = layFrom es (prevE es k) (es.drop k)) ∧ Hid (Below w.heap.size w wr)) (fun i _ => es.length - (intOf i).toNat)
    case atStart => exact ⟨0, Nat.zero_le _, rfl, HE, hide (Below.refl _ _)⟩
    case round =>
      obtain ⟨k, hk, rfl, HF, HW⟩ := hrel
      have HR1 := hide (HR.out.below HW.out)
      by_cases hlt : k < es.length
      · obtain ⟨b, off, e, x, cc, rfl, hb, he, c0, c1, c2, c3, hr⟩ := HR1.out.at hlt
        have HX := hide he
        have HRc := hide hr
        have hsm := HS.out e (List.mem_of_getElem? he)
        clear he hr
        by_cases hz : entFault e = 0
        · have hpos := path_pos (entFault_zero hz)
          have HZ := hide hz
          clear hz
          go_wp2_with fail
          refine (specEntryFault_any e _ _ _ _ HRc.out rfl hsm.1 hsm.2).mono ?_
          rintro r w1 ⟨rfl, hb1⟩
          rw [HZ.out]
          have HW1 := hide (below_next HW.out hb1)
          have HR2 := hide (HR1.out.below hb1)
          clear hb1 c0 c1 c2 c3 HW HRc
          obtain ⟨b', off', e', x', cc', hbb, hb', he', c0, c1, c2, c3, hr'⟩ := HR2.out.at hlt
          simp only [Option.some.injEq, Addr.mk.injEq, and_true] at hbb
          obtain ⟨rfl, rfl⟩ := hbb
          have : e' = e := Option.some.inj (he'.symm.trans HX.out)
          subst this
          clear he' hr' c1 c2 c3 HR1
          cases k with
          | zero =>
            have HL := hide (show lowE (prevE es 0) e' = false from rfl)
            simp only [Nat.zero_mul, Nat.add_zero] at c0
            go_wp2_with fail
            go_quiet (fail)
            go_wp2_with fail
            have HW2 := hide (below_drewN HW1.out nq)
            have HR3 := hide (HR2.out.below (below_drewN (Below.refl w1.heap.size w1) nq))
            clear HW1 HR2
            have hw3 : ∀ o, (w1.drewN nq).cell? ⟨b, o, none⟩ = w1.cell? ⟨b, o, none⟩ := fun _ => rfl
            generalize w1.drewN nq = W at *
            have HH := hide (l4Home_any _ c es.length es e'.path W HR3.out rfl (by omega) hpos hsm.1)
            cases hh : homeE es e'.path
            · have HO := hide (layFrom_home HF.out HX.out HZ.out HL.out hh)
              refine HH.out.mono ?_
              rintro r w4 ⟨rfl, hb4⟩
              rw [hh]
              clear hh
              have HW3 := hide (below_next HW2.out hb4)
              clear hb4
              go_wp2_with fail
              go_ret
              exact ⟨ret_int HO.out.symm, HW3.out⟩
            · have HO := hide (layFrom_next HF.out HX.out HZ.out HL.out hh)
              refine HH.out.mono ?_
              rintro r w4 ⟨rfl, hb4⟩
              rw [hh]
              clear hh
              have HW3 := hide (below_next HW2.out hb4)
              clear hb4
              go_wp2_with fail
              go_roundw
              case rel => exact ⟨1, by omega, by go_num, HO, HW3⟩
              case measure => simp [intOf]; omega
          | succ j =>
            have hg : (0 : Int) < ((j + 1 : Nat) : Int) := by omega
            obtain ⟨b2, off2, e2, x2, cc2, hbb, hb2, he2, d0, d1, d2, d3, hr2⟩ := HR2.out.at (show j < es.length by omega)
            simp only [Option.some.injEq, Addr.mk.injEq, and_true] at hbb
            obtain ⟨rfl, rfl⟩ := hbb
            have HL := hide (show lowE (prevE es (j + 1)) e' = (Op.bytesLess e'.path e2.path || (e'.path == e2.path)) from by simp [prevE, lowE, he2])
            clear he2 d1 d2 d3 hr2
            cases hlow : (Op.bytesLess (str e'.path).toList (str e2.path).toList || ((str e'.path).toList == (str e2.path).toList))
            · have HL2 := hide (show lowE (prevE es (j + 1)) e' = false from by rw [HL.out]; rw [str_toList, str_toList] at hlow; exact hlow)
              go_wp2_with fail
              go_quiet (fail)
              go_wp2_with fail
              have HW2 := hide (below_drewN HW1.out nq)
              have HR3 := hide (HR2.out.below (below_drewN (Below.refl w1.heap.size w1) nq))
              clear HW1 HR2
              have hw3 : ∀ o, (w1.drewN nq).cell? ⟨b, o, none⟩ = w1.cell? ⟨b, o, none⟩ := fun _ => rfl
              generalize w1.drewN nq = W at *
              have HH := hide (l4Home_any _ c es.length es e'.path W HR3.out rfl (by omega) hpos hsm.1)
              cases hh : homeE es e'.path
              · have HO := hide (layFrom_home HF.out HX.out HZ.out HL2.out hh)
                refine HH.out.mono ?_
                rintro r w4 ⟨rfl, hb4⟩
                rw [hh]
                clear hh
                have HW3 := hide (below_next HW2.out hb4)
                clear hb4
                go_wp2_with fail
                go_ret
                exact ⟨ret_int HO.out.symm, HW3.out⟩
              · have HO := hide (layFrom_next HF.out HX.out HZ.out HL2.out hh)
                refine HH.out.mono ?_
                rintro r w4 ⟨rfl, hb4⟩
                rw [hh]
                clear hh
                have HW3 := hide (below_next HW2.out hb4)
                clear hb4
                go_wp2_with fail
                go_roundw
                case rel => exact ⟨j + 1 + 1, by omega, by go_num, HO, HW3⟩
                case measure => simp [intOf]; omega
            · have HL2 := hide (show lowE (prevE es (j + 1)) e' = true from by rw [HL.out]; rw [str_toList, str_toList] at hlow; exact hlow)
              have HO := hide (layFrom_low HF.out HX.out HZ.out HL2.out)
              go_wp2_with fail
              go_quiet (fail)
              go_wp2_with fail
              go_ret
              exact ⟨ret_int HO.out.symm, below_drewN HW1.out _⟩
        · have HZ := hide (layFrom_bad HF.out HX.out hz)
          have hz2 : (entFault e != 0) = true := by simp; exact hz
          clear hz
          go_wp2_with fail
          refine (specEntryFault_any e _ _ _ _ HRc.out rfl hsm.1 hsm.2).mono ?_
          rintro r w1 ⟨rfl, hb1⟩
          have HW1 := hide (below_next HW.out hb1)
          clear hb1
          go_wp2_with fail
          go_ret
          exact ⟨ret_int HZ.out.symm, HW1.out⟩
      · have HZ := hide (layFrom_end HF.out (by omega))
        go_wp2_with fail
        go_ret
        exact ⟨ret_int HZ.out.symm, HW.out⟩

/-- What a layer and a path that are asked for answer. -/
def askE (es : List En) (p : Bs) : Int := if layFault es = 0 then faultP p else layFault es

end Go.Proofs.Ytcnoabkpilmanaa
