/-
  Texts put together: EntL Cut Ints EntG.
-/
import Derived.Test.YtejipahfodhmjaaGreatKLater2
import Derived.Test.YtejipahfodhmjaaGreatKLater1
import Derived.Lib.SliceRun
import Derived.Deep.AppendLies
import Derived.Deep.DrawnRows
namespace Go.Proofs.YtejipahfodhmjaaGreat
open Go.RowKit
set_option linter.unusedVariables false

def atE (es : List En) (p : Bs) : Option Nat := es.findIdx? fun e => decide (e.path = p)

theorem str_toList (a : Bs) : (str a).toList = a := by rw [ByteArray.toList_eq, str_data]
theorem str_yes {a b : Bs} (h : a = b) : ((str a).toList == (str b).toList) = true := by rw [h]; simp
theorem str_no {a b : Bs} (h : a ≠ b) : ((str a).toList == (str b).toList) = false := by rw [str_toList, str_toList, beq_eq_false_iff_ne]; exact h
def placeI (o : Option Nat) : Int := match o with | some i => (i : Int) | none => -1
theorem drop_at {α : Type} {es : List α} {k : Nat} {e : α} (h : es[k]? = some e) : es.drop k = e :: es.drop (k + 1) := by
  obtain ⟨hk, he⟩ := List.getElem?_eq_some_iff.1 h
  rw [List.drop_eq_getElem_cons hk, he]
theorem atE_hit {es : List En} {p : Bs} {k : Nat} {e : En} (h : es[k]? = some e) (hi : atE es p = (atE (es.drop k) p).map (· + k)) (hp : e.path = p) : atE es p = some k := by
  rw [hi, drop_at h]; simp [atE, List.findIdx?_cons, hp]
theorem atE_miss {es : List En} {p : Bs} {k : Nat} {e : En} (h : es[k]? = some e) (hi : atE es p = (atE (es.drop k) p).map (· + k)) (hp : e.path ≠ p) : atE es p = (atE (es.drop (k + 1)) p).map (· + (k + 1)) := by
  rw [hi, drop_at h]
  simp only [atE, List.findIdx?_cons, hp, decide_false, Bool.false_eq_true, if_false, Option.map_map]
  congr 1
  funext x
  simp only [Function.comp]
  omega
theorem atE_end {es : List En} {p : Bs} {k : Nat} (hk : es.length ≤ k) (hi : atE es p = (atE (es.drop k) p).map (· + k)) : atE es p = none := by
  rw [hi, List.drop_eq_nil_of_le hk]; rfl
theorem atE_find (es : List En) (p : Bs) : findE es p = (atE es p).bind (fun i => es[i]?) := by
  unfold findE atE
  induction es with
  | nil => rfl
  | cons e r ih =>
    by_cases h : e.path = p
    · simp [List.findIdx?_cons, h]
    · simp only [List.findIdx?_cons, List.find?_cons, h, decide_false, Bool.false_eq_true, if_false, ih]
      cases List.findIdx? (fun e => decide (e.path = p)) r <;> simp
theorem atE_lt {es : List En} {p : Bs} {k : Nat} (h : atE es p = some k) : k < es.length := by
  unfold atE at h
  exact (List.findIdx?_eq_some_iff_getElem.1 h).1

set_option maxRecDepth 100000 in
set_option maxHeartbeats 800000 in
theorem l4At_any (a : Option Addr) (c n : Nat) (es : List En) (p : Bs) (w : World) (h : RdE w a es) (hn : n = es.length) (hl : es.length ≤ 1048576) :
    Calls Tryz.prog 78 #[.slice a n c, .string (str p)] w fun r w' => r = .returned (.int .i64 (placeI (atE es p))) ∧ w' = w := by
  subst hn
  have HR := hide h
  clear h
  go_enter Tryz.func78, Tryz.ntmps78
  go_wp2_with fail
  go_loop [5] (fun i => ∃ k : Nat, k ≤ es.length ∧ i = .int .i64 k ∧ Hid (atE es p = (atE (es.drop k) p).map (· + k))) (fun i => es.length - (intOf i).toNat)
  case atStart => exact ⟨0, Nat.zero_le _, rfl, hide (by simp)⟩
  case round =>
    obtain ⟨k, hk, rfl, HA⟩ := hrel
    by_cases hlt : k < es.length
    · obtain ⟨b, off, e, x, cc, rfl, hb, he, c0, c1, c2, c3, hr⟩ := HR.out.at hlt
      have HX := hide he
      clear he hr
      by_cases hp : e.path = p
      · have HE := hide (atE_hit HX.out HA.out hp)
        have hs := str_yes hp
        clear hp
        go_wp2_with fail
        go_ret
        exact ⟨ret_int (by rw [HE.out]; rfl), rfl⟩
      · have HE := hide (atE_miss HX.out HA.out hp)
        have hs := str_no hp
        clear hp
        go_wp2_with fail
        go_round
        case rel => exact ⟨k + 1, by omega, by go_num, HE⟩
        case measure => simp [intOf]; omega
    · have HE := hide (atE_end (by omega) HA.out)
      go_wp2_with fail
      go_ret
      exact ⟨ret_int (by rw [HE.out]; rfl), rfl⟩
theorem l4IsDir_any (b o : Nat) (k : Int) (w : World) (h : w.cell? ⟨b, o + 1, none⟩ = some (.int .i64 k)) :
    Calls Tryz.prog 171 #[.pointer (some ⟨b, o, none⟩)] w fun r w' => r = .returned (.bool (dirK k)) ∧ w' = w := by
  by_cases h2 : k = 2
  · have hk : dirK k = true := by simp [dirK, h2]
    rw [hk]
    subst h2
    go_enter Tryz.func171, Tryz.ntmps171
    go_wp2_with fail
    go_ret
    exact ⟨rfl, rfl⟩
  · have hk : dirK k = (k == 4) := by simp [dirK, h2]; rfl
    have hf : (k == 2) = false := by simp; exact h2
    rw [hk]
    go_enter Tryz.func171, Tryz.ntmps171
    go_wp2_with fail
    go_ret
    exact ⟨rfl, rfl⟩
theorem homeE_top {es : List En} {p : Bs} (h : parentP p = []) : homeE es p = true := by simp [homeE, h]
theorem homeE_none {es : List En} {p : Bs} (h : parentP p ≠ []) (ha : atE es (parentP p) = none) : homeE es p = false := by simp [homeE, h, atE_find, ha]
theorem homeE_some {es : List En} {p : Bs} {k : Nat} {e : En} (h : parentP p ≠ []) (ha : atE es (parentP p) = some k) (he : es[k]? = some e) : homeE es p = dirK e.kind := by simp [homeE, h, atE_find, ha, he]
theorem str_empty (a : Bs) : (str a).toList.isEmpty = decide (a = []) := by rw [str_toList]; cases a <;> rfl

set_option maxRecDepth 100000 in
set_option maxHeartbeats 800000 in
theorem l4Home_any (a : Option Addr) (c n : Nat) (es : List En) (p : Bs) (w : World) (h : RdE w a es) (hn : n = es.length) (hl : es.length ≤ 1048576) (h1 : 1 ≤ p.length) (hp : p.length ≤ 1048576) :
    Calls Tryz.prog 144 #[.slice a n c, .string (str p)] w fun r w' => r = .returned (.bool (homeE es p)) ∧ Below w.heap.size w w' := by
  subst hn
  have HR := hide h
  clear h
  have HP := hide (show (aboveN (cutB (str p).data.toList.tail)).getLastD [] = parentP p from by rw [str_data]; rfl)
  by_cases hq : parentP p = []
  · have HE := hide (homeE_top (es := es) hq)
    have hs := (str_empty (parentP p)).trans (decide_eq_true hq)
    clear hq
    go_enter Tryz.func144, Tryz.ntmps144
    go_wp2_with fail
    refine (l3Parent_any _ _ (by rw [str_size]; omega) (by rw [str_size]; omega)).mono ?_
    rintro r w1 ⟨rfl, hb⟩
    rw [HP.out]
    have HB := hide hb
    clear hb
    go_wp2_with fail
    go_ret
    exact ⟨by rw [HE.out]; rfl, HB.out⟩
  · have hs := (str_empty (parentP p)).trans (decide_eq_false hq)
    cases ha : atE es (parentP p) with
    | none =>
      have HE := hide (homeE_none hq ha)
      have HA := hide ha
      clear hq ha
      go_enter Tryz.func144, Tryz.ntmps144
      go_wp2_with fail
      refine (l3Parent_any _ _ (by rw [str_size]; omega) (by rw [str_size]; omega)).mono ?_
      rintro r w1 ⟨rfl, hb⟩
      rw [HP.out]
      have HB := hide hb
      have HR1 := hide (HR.out.below hb)
      clear hb
      go_wp2_with fail
      refine (l4At_any _ _ _ es _ _ HR1.out rfl hl).mono ?_
      rintro r w2 ⟨rfl, rfl⟩
      rw [HA.out]
      simp only [placeI]
      go_wp2_with fail
      go_ret
      exact ⟨by rw [HE.out]; rfl, HB.out⟩
    | some k =>
      have hk := atE_lt ha
      obtain ⟨e, he⟩ : ∃ e, es[k]? = some e := ⟨es[k], List.getElem?_eq_getElem hk⟩
      have HE := hide (homeE_some hq ha he)
      have HA := hide ha
      have HX := hide he
      clear hq ha he
      go_enter Tryz.func144, Tryz.ntmps144
      go_wp2_with fail
      refine (l3Parent_any _ _ (by rw [str_size]; omega) (by rw [str_size]; omega)).mono ?_
      rintro r w1 ⟨rfl, hb⟩
      rw [HP.out]
      have HB := hide hb
      have HR1 := hide (HR.out.below hb)
      clear hb
      go_wp2_with fail
      refine (l4At_any _ _ _ es _ _ HR1.out rfl hl).mono ?_
      rintro r w2 ⟨rfl, rfl⟩
      rw [HA.out]
      simp only [placeI]
      obtain ⟨b, off, e', x, cc, rfl, hbl, he', c0, c1, c2, c3, hr⟩ := HR1.out.at hk
      have : e' = e := Option.some.inj (he'.symm.trans HX.out)
      subst this
      clear he' hr
      go_wp2_with fail
      refine (l4IsDir_any _ _ _ _ c1).mono ?_
      rintro r w3 ⟨rfl, rfl⟩
      go_wp2_with fail
      go_ret
      exact ⟨by rw [HE.out]; rfl, HB.out⟩

theorem entFault_zero {e : En} (h : entFault e = 0) : faultP e.path = 0 := by
  by_cases hf : faultP e.path = 0
  · exact hf
  · rw [entFault_path hf] at h; exact absurd h hf
theorem faultP_nil : faultP [] ≠ 0 := by decide
theorem path_pos {p : Bs} (h : faultP p = 0) : 1 ≤ p.length := by
  cases p with
  | nil => exact absurd h faultP_nil
  | cons c r => simp
theorem layFault_many {es : List En} (h : 12 < es.length) : layFault es = 2 := by simp [layFault, h]
theorem layFault_few {es : List En} (h : ¬ 12 < es.length) : layFault es = layFrom es (prevE es 0) (es.drop 0) := by simp [layFault, h, prevE]
theorem layFrom_bad {es : List En} {k : Nat} {e : En} {F : Int} (hF : F = layFrom es (prevE es k) (es.drop k)) (he : es[k]? = some e) (h : entFault e ≠ 0) : F = entFault e := by
  have hb : entBad es (prevE es k) e = entFault e := by simp [entBad, h]
  rw [hF, layFrom_step he, hb, if_neg h]
theorem layFrom_low {es : List En} {k : Nat} {e : En} {F : Int} (hF : F = layFrom es (prevE es k) (es.drop k)) (he : es[k]? = some e) (h : entFault e = 0) (hl : lowE (prevE es k) e = true) : F = 1 := by
  have hb : entBad es (prevE es k) e = 1 := by simp [entBad, h, hl]
  rw [hF, layFrom_step he, hb]; rfl
theorem layFrom_home {es : List En} {k : Nat} {e : En} {F : Int} (hF : F = layFrom es (prevE es k) (es.drop k)) (he : es[k]? = some e) (h : entFault e = 0) (hl : lowE (prevE es k) e = false) (hh : homeE es e.path = false) : F = 9 := by
  have hb : entBad es (prevE es k) e = 9 := by simp [entBad, h, hl, hh]
  rw [hF, layFrom_step he, hb]; rfl
theorem layFrom_next {es : List En} {k : Nat} {e : En} {F : Int} (hF : F = layFrom es (prevE es k) (es.drop k)) (he : es[k]? = some e) (h : entFault e = 0) (hl : lowE (prevE es k) e = false) (hh : homeE es e.path = true) : F = layFrom es (prevE es (k + 1)) (es.drop (k + 1)) := by
  have hb : entBad es (prevE es k) e = 0 := by simp [entBad, h, hl, hh]
  rw [hF, layFrom_step he, hb]; rfl
theorem layFrom_end {es : List En} {k : Nat} {F : Int} (hF : F = layFrom es (prevE es k) (es.drop k)) (hk : es.length ≤ k) : F = 0 := by
  rw [hF, List.drop_eq_nil_of_le hk]; cases prevE es k <;> rfl

set_option maxRecDepth 100000 in
set_option maxHeartbeats 1600000 in
theorem l4Fault_any (a : Option Addr) (c n : Nat) (es : List En) (w : World) (h : RdE w a es) (hn : n = es.length) (hl : es.length ≤ 1048576) (hs : SmallE es) :
    Calls Tryz.prog 106 #[.slice a n c] w fun r w' => r = .returned (.int .i64 (layFault es)) ∧ Below w.heap.size w w' := by
  subst hn
  by_cases hm : 12 < es.length
  · have HE := hide (layFault_many hm)
    have hm2 : (12 : Int) < (es.length : Int) := by omega
    go_enter Tryz.func106, Tryz.ntmps106
    go_wp2_with fail
    go_ret
    exact ⟨ret_int HE.out.symm, Below.refl _ _⟩
  · have HE := hide (layFault_few hm)
    have hm2 : ¬ (12 : Int) < (es.length : Int) := by omega
    generalize layFault es = F at HE ⊢
    have HR := hide h
    have HS := hide hs
    clear h hs
    go_enter Tryz.func106, Tryz.ntmps106
    go_wp2_with fail
    go_loopw [3] (fun i wr => ∃ k : Nat, k ≤ es.length ∧ i = .int .i64 k ∧ Hid (F = layFrom es (prevE es k) (es.drop k)) ∧ Hid (Below w.heap.size w wr)) (fun i _ => es.length - (intOf i).toNat)
    case atStart => exact ⟨0, Nat.zero_le _, rfl, HE, hide (Below.refl _ _)⟩
    case round =>
      obtain ⟨k, hk, rfl, HF, HW⟩ := hrel
      have HR1 := hide (HR.out.below HW.out)
      by_cases hlt : k < es.length
      · obtain ⟨b, off, e, x, cc, rfl, hb, he, c0, c1, c2, c3, hr⟩ := HR1.out.at hlt
        have HX := hide he
        have HRc := hide hr
        have hsm := HS.out e (List.mem_of_getElem? he)
        clear he hr
        by_cases hz : entFault e = 0
        · have hpos := path_pos (entFault_zero hz)
          have HZ := hide hz
          clear hz
          go_wp2_with fail
          refine (specEntryFault_any e _ _ _ _ HRc.out rfl hsm.1 hsm.2).mono ?_
          rintro r w1 ⟨rfl, hb1⟩
          rw [HZ.out]
          have HW1 := hide (below_next HW.out hb1)
          have HR2 := hide (HR1.out.below hb1)
          clear hb1 c0 c1 c2 c3 HW HRc
          obtain ⟨b', off', e', x', cc', hbb, hb', he', c0, c1, c2, c3, hr'⟩ := HR2.out.at hlt
          simp only [Option.some.injEq, Addr.mk.injEq, and_true] at hbb
          obtain ⟨rfl, rfl⟩ := hbb
          have : e' = e := Option.some.inj (he'.symm.trans HX.out)
          subst this
          clear he' hr' c1 c2 c3 HR1
          cases k with
          | zero =>
            have HL := hide (show lowE (prevE es 0) e' = false from rfl)
            simp only [Nat.zero_mul, Nat.add_zero] at c0
            go_wp2_with fail
            go_quiet (fail)
            go_wp2_with fail
            have HW2 := hide (below_drewN HW1.out nq)
            have HR3 := hide (HR2.out.below (below_drewN (Below.refl w1.heap.size w1) nq))
            clear HW1 HR2
            have hw3 : ∀ o, (w1.drewN nq).cell? ⟨b, o, none⟩ = w1.cell? ⟨b, o, none⟩ := fun _ => rfl
            generalize w1.drewN nq = W at *
            have HH := hide (l4Home_any _ c es.length es e'.path W HR3.out rfl (by omega) hpos hsm.1)
            cases hh : homeE es e'.path
            · have HO := hide (layFrom_home HF.out HX.out HZ.out HL.out hh)
              refine HH.out.mono ?_
              rintro r w4 ⟨rfl, hb4⟩
              rw [hh]
              clear hh
              have HW3 := hide (below_next HW2.out hb4)
              clear hb4
              go_wp2_with fail
              go_ret
              exact ⟨ret_int HO.out.symm, HW3.out⟩
            · have HO := hide (layFrom_next HF.out HX.out HZ.out HL.out hh)
              refine HH.out.mono ?_
              rintro r w4 ⟨rfl, hb4⟩
              rw [hh]
              clear hh
              have HW3 := hide (below_next HW2.out hb4)
              clear hb4
              go_wp2_with fail
              go_roundw
              case rel => exact ⟨1, by omega, by go_num, HO, HW3⟩
              case measure => simp [intOf]; omega
          | succ j =>
            have hg : (0 : Int) < ((j + 1 : Nat) : Int) := by omega
            obtain ⟨b2, off2, e2, x2, cc2, hbb, hb2, he2, d0, d1, d2, d3, hr2⟩ := HR2.out.at (show j < es.length by omega)
            simp only [Option.some.injEq, Addr.mk.injEq, and_true] at hbb
            obtain ⟨rfl, rfl⟩ := hbb
            have HL := hide (show lowE (prevE es (j + 1)) e' = (Op.bytesLess e'.path e2.path || (e'.path == e2.path)) from by simp [prevE, lowE, he2])
            clear he2 d1 d2 d3 hr2
            cases hlow : (Op.bytesLess (str e'.path).toList (str e2.path).toList || ((str e'.path).toList == (str e2.path).toList))
            · have HL2 := hide (show lowE (prevE es (j + 1)) e' = false from by rw [HL.out]; rw [str_toList, str_toList] at hlow; exact hlow)
              go_wp2_with fail
              go_quiet (fail)
              go_wp2_with fail
              have HW2 := hide (below_drewN HW1.out nq)
              have HR3 := hide (HR2.out.below (below_drewN (Below.refl w1.heap.size w1) nq))
              clear HW1 HR2
              have hw3 : ∀ o, (w1.drewN nq).cell? ⟨b, o, none⟩ = w1.cell? ⟨b, o, none⟩ := fun _ => rfl
              generalize w1.drewN nq = W at *
              have HH := hide (l4Home_any _ c es.length es e'.path W HR3.out rfl (by omega) hpos hsm.1)
              cases hh : homeE es e'.path
              · have HO := hide (layFrom_home HF.out HX.out HZ.out HL2.out hh)
                refine HH.out.mono ?_
                rintro r w4 ⟨rfl, hb4⟩
                rw [hh]
                clear hh
                have HW3 := hide (below_next HW2.out hb4)
                clear hb4
                go_wp2_with fail
                go_ret
                exact ⟨ret_int HO.out.symm, HW3.out⟩
              · have HO := hide (layFrom_next HF.out HX.out HZ.out HL2.out hh)
                refine HH.out.mono ?_
                rintro r w4 ⟨rfl, hb4⟩
                rw [hh]
                clear hh
                have HW3 := hide (below_next HW2.out hb4)
                clear hb4
                go_wp2_with fail
                go_roundw
                case rel => exact ⟨j + 1 + 1, by omega, by go_num, HO, HW3⟩
                case measure => simp [intOf]; omega
            · have HL2 := hide (show lowE (prevE es (j + 1)) e' = true from by rw [HL.out]; rw [str_toList, str_toList] at hlow; exact hlow)
              have HO := hide (layFrom_low HF.out HX.out HZ.out HL2.out)
              go_wp2_with fail
              go_quiet (fail)
              go_wp2_with fail
              go_ret
              exact ⟨ret_int HO.out.symm, below_drewN HW1.out _⟩
        · have HZ := hide (layFrom_bad HF.out HX.out hz)
          have hz2 : (entFault e != 0) = true := by simp; exact hz
          clear hz
          go_wp2_with fail
          refine (specEntryFault_any e _ _ _ _ HRc.out rfl hsm.1 hsm.2).mono ?_
          rintro r w1 ⟨rfl, hb1⟩
          have HW1 := hide (below_next HW.out hb1)
          clear hb1
          go_wp2_with fail
          go_ret
          exact ⟨ret_int HZ.out.symm, HW1.out⟩
      · have HZ := hide (layFrom_end HF.out (by omega))
        go_wp2_with fail
        go_ret
        exact ⟨ret_int HZ.out.symm, HW.out⟩

end Go.Proofs.YtejipahfodhmjaaGreat

namespace Go.Proofs.YtejipahfodhmjaaGreat
open Go.RowKit
set_option linter.unusedVariables false

theorem reads_news {w : World} {b off : Nat} {zs : List Int} {k : IntKind} (hc : ∀ i, i < zs.length → w.cell? ⟨b, off + i, none⟩ = some (.int k (zs.getD i 0))) :
    ∀ j u, (zs.map (Value.int k))[j]? = some u → w.cell? ((⟨b, off, none⟩ : Addr).add j) = some u := by
  intro j u hj
  have hadd : (⟨b, off, none⟩ : Addr).add j = ⟨b, off + j, none⟩ := by unfold Addr.add; split <;> simp_all
  have hjl : j < zs.length := by
    rcases Nat.lt_or_ge j zs.length with h | h
    · exact h
    · rw [List.getElem?_eq_none (by simpa using h)] at hj; simp at hj
  rw [hadd, hc j hjl]
  simp [hjl] at hj
  simp [List.getD_eq_getElem?_getD, hjl, hj]

theorem ints_one (k : IntKind) (zs : List Int) : ∀ u ∈ zs.map (Value.int k), u.oneCell' = true := by
  intro u hu
  obtain ⟨z, _, rfl⟩ := List.mem_map.1 hu
  rfl

theorem own_of_ownsRow {w : World} {base : Nat} {e : TypeId} {k : IntKind} {v : Value} {n : Nat} {zs : List Int} (h : w.ownsRow base e 1 v n (zs.map (Value.int k))) (hn : n = zs.length) (hz : 0 < n) :
    ∃ g cap, v = .slice (some ⟨g, 0, none⟩) n cap ∧ base ≤ g ∧ g < w.heap.size ∧ Own k w (some ⟨g, 0, none⟩) zs := by
  obtain ⟨g, cap, hv, hg, hgl, hc, hf⟩ := ownsRow_ints h hn hz
  exact ⟨g, cap, hv, hg, hgl, fun _ => ⟨g, 0, rfl, hgl, fun i hi => ⟨by rw [Nat.zero_add]; exact hc i (by omega), hf _⟩⟩⟩

theorem wpList_append_fresh {P : Program} {wr : World} {ops : Array Oper} {rest : List Oper} {o : Oper} {a : Act} {Q : Exit → Act → World → Prop} (hgd : o.guard = none) (s x : Operand) (t : TypeId)
    (ho : o.op = .call { callee := .builtin .append, args := #[s, x], argTypes := #[t, t] })
    (e : TypeId) (i : TypeInfo) (k : IntKind) (bytes : Nat) (ht : P.underlying t = some (.slice e)) (hi : P.info? e = some i) (hz : i.zero = some (.int k 0))
    (hsize : i.size = 1) (hby : i.bytes = bytes) (hs : a.eval s = .slice (some ⟨wr.heap.size, 0, none⟩) 0 0)
    (b off n cap : Nat) (zs : List Int) (hx : a.eval x = .slice (some ⟨b, off, none⟩) n cap) (hn : n = zs.length) (hb : b < wr.heap.size) (hc : ∀ i, i < zs.length → wr.cell? ⟨b, off + i, none⟩ = some (.int k (zs.getD i 0)))
    (h0 : 0 < zs.length) (h63 : zs.length ≤ maxLen) (hbytes : zs.length * bytes ≤ 140737488355328)
    (h : ∀ g c w', w'.ownsRow wr.heap.size e 1 (.slice (some ⟨g, 0, none⟩) n c) n (zs.map (Value.int k)) → wr.heap.size ≤ g → g < w'.heap.size → Below wr.heap.size wr w' → wpList P ops Q rest (a.put o.dst (.slice (some ⟨g, 0, none⟩) n c)) w') :
    wpList P ops Q (o :: rest) a (wr.alloc (.cells #[] e)) := by
  have hown : (wr.alloc (.cells #[] e)).ownsRow wr.heap.size e 1 (.slice (some ⟨wr.heap.size, 0, none⟩) 0 0) 0 [] := World.ownsRow_made wr #[] 0 (Nat.le_refl _) (Nat.zero_le _) rfl
  have hn2 : ∀ j u, (zs.map (Value.int k))[j]? = some u → (wr.alloc (.cells #[] e)).cell? ((⟨b, off, none⟩ : Addr).add j) = some u := fun j u hj => (World.grownBy_alloc wr (.cells #[] e) none).cell (reads_news hc j u hj) (by simp)
  refine wpList_append_own _ hgd s x t ho wr.heap.size e i (.int k 0) 1 bytes ht hi hz hsize hby rfl (by decide) _ _ _ hs hown ⟨b, off, none⟩ n cap (zs.map (Value.int k)) hx (by simp [hn]) hn2 (ints_one _ _) (by omega) (by rw [Nat.zero_add, hn]; exact hbytes) (by simp) ?_
  intro v' w' hown' hgrow _
  rw [Nat.zero_add, List.nil_append] at hown'
  obtain ⟨g, c, rfl, hg, hgl, _⟩ := own_of_ownsRow hown' hn (by omega)
  refine h g c w' hown' hg hgl ?_
  exact ((Below.refl _ _).alloc (Nat.le_refl _) _).grown hgrow (by simp) (fun k hk => by simp [Value.ownBlock] at hk; omega)

set_option maxHeartbeats 400000 in
theorem clone_any (b off cap : Nat) (zs : List Int) (w : World) (hc : ∀ i, i < zs.length → w.cell? ⟨b, off + i, none⟩ = some (.int .u8 (zs.getD i 0))) (hb : b < w.heap.size) (h0 : 0 < zs.length) (hl : zs.length ≤ 1048576) (n : Nat) (hn : n = zs.length) :
    Calls Tryz.prog 94 #[.slice (some ⟨b, off, none⟩) n cap] w fun e w' => ∃ g c, e = .returned (.slice (some ⟨g, 0, none⟩) n c) ∧ w'.ownsRow w.heap.size 5 1 (.slice (some ⟨g, 0, none⟩) n c) n (zs.map (Value.int .u8)) ∧ w.heap.size ≤ g ∧ g < w'.heap.size ∧ Below w.heap.size w w' := by
  obtain ⟨i0, hi, hz0, hz1, hz2⟩ := info_parts Tryz.infoU8
  have heq := fun w => Lib.run_eql_slice_nil (P := Tryz.prog) w 22 5 (some ⟨b, off, none⟩) n cap 0 0 Tryz.underlying22
  have HC := hide hc
  have HN := hide hn
  clear hc hn
  go_enter Tryz.func94, Tryz.ntmps94
  go_wp2_with (at_builtin; refine wpList_append_fresh rfl (.tmp 5) (.tmp 6) 22 rfl 5 i0 .u8 1 Tryz.underlying22 hi hz0 hz1 hz2 rfl b off n cap zs rfl HN.out hb HC.out h0 (by unfold maxLen; omega) (by omega) ?_)
  intro g c w' hown hg hgl hbel
  have HO := hide hown
  have HB := hide hbel
  clear hown hbel
  go_wp2
  go_ret
  exact ⟨g, c, rfl, HO.out, hg, hgl, HB.out⟩

def piece (zs : List Int) (i : Nat) : List Int := (zs.drop (8 * i)).take 8
def cut (zs : List Int) : List (List Int) := (List.range ((zs.length + 7) / 8)).map (piece zs)
theorem cut_length (zs : List Int) : (cut zs).length = (zs.length + 7) / 8 := by simp [cut]
theorem piece_length (zs : List Int) (i : Nat) : (piece zs i).length = min 8 (zs.length - 8 * i) := by simp [piece]
theorem piece_getD (zs : List Int) (i t : Nat) (h : t < (piece zs i).length) : (piece zs i).getD t 0 = zs.getD (8 * i + t) 0 := by
  rw [piece_length] at h
  have h8 : t < 8 := by omega
  simp [piece, List.getD_eq_getElem?_getD, h8, List.getElem?_drop]

def Grow2 (B : Nat) (w : World) (v : Value) (P : Nat → List Int) (j : Nat) : Prop :=
  ∃ A C : Nat → Nat, w.ownsRow B 22 1 v j ((List.range j).map fun i => .slice (some ⟨A i, 0, none⟩) (P i).length (C i)) ∧
    (∀ i, i < j → w.ownsRow B 5 1 (.slice (some ⟨A i, 0, none⟩) (P i).length (C i)) (P i).length ((P i).map (Value.int .u8))) ∧
    ∀ i i', i < j → i' < j → A i = A i' → i = i'

theorem Grow2.below {B : Nat} {w w' : World} {v : Value} {P : Nat → List Int} {j : Nat} (h : Grow2 B w v P j) (hk : Below w.heap.size w w') : Grow2 B w' v P j := by
  obtain ⟨A, C, h1, h2, h3⟩ := h
  exact ⟨A, C, ownsRow_below h1 hk, fun i hi => ownsRow_below (h2 i hi) hk, h3⟩

theorem Grow2.push {B : Nat} {w w1 w2 : World} {v v' : Value} {P : Nat → List Int} {j g c : Nat} {A C : Nat → Nat}
    (h1 : w.ownsRow B 22 1 v j ((List.range j).map fun i => .slice (some ⟨A i, 0, none⟩) (P i).length (C i)))
    (h2 : ∀ i, i < j → w.ownsRow B 5 1 (.slice (some ⟨A i, 0, none⟩) (P i).length (C i)) (P i).length ((P i).map (Value.int .u8)))
    (h3 : ∀ i i', i < j → i' < j → A i = A i' → i = i') (hB : B ≤ w.heap.size) (hbel : Below w.heap.size w w1)
    {n1 n2 : Nat} (hown : w1.ownsRow w.heap.size 5 1 (.slice (some ⟨g, 0, none⟩) n1 c) n1 ((P j).map (Value.int .u8))) (hg : w.heap.size ≤ g)
    (hv' : w2.ownsRow B 22 1 v' (j + 1) ((List.range j).map (fun i => Value.slice (some ⟨A i, 0, none⟩) (P i).length (C i)) ++ [.slice (some ⟨g, 0, none⟩) n2 c]))
    (hk : Kept (fun b => v.ownBlock = some b) w1 w2) (hn1 : n1 = (P j).length) (hn2 : n2 = (P j).length) : Grow2 B w2 v' P (j + 1) := by
  subst hn1 hn2
  have hA : ∀ i, i < j → A i < w.heap.size := fun i hi => ((h2 i hi).lt (A i) rfl).2
  have k1 := ownsRow_below h1 hbel
  refine ⟨fun i => if i = j then g else A i, fun i => if i = j then c else C i, ?_, ?_, ?_⟩
  · rw [List.range_succ, List.map_append]
    have e : (List.range j).map (fun i => Value.slice (some ⟨if i = j then g else A i, 0, none⟩) (P i).length (if i = j then c else C i)) = (List.range j).map (fun i => Value.slice (some ⟨A i, 0, none⟩) (P i).length (C i)) := by
      apply List.map_congr_left
      intro i hi
      have : i ≠ j := by have := List.mem_range.1 hi; omega
      simp [this]
    rw [e]
    simpa using hv'
  · intro i hi
    by_cases e : i = j
    · subst e
      simp only [if_true]
      exact ownsRow_kept (ownsRow_mono hown hB) hk (fun b hb hS => ownsRow_apart k1 hown (by decide) hS hb)
    · simp only [if_neg e]
      have k2 := ownsRow_below (h2 i (by omega)) hbel
      exact ownsRow_kept k2 hk (fun b hb hS => ownsRow_apart k1 k2 (by decide) hS hb)
  · intro i i' hi hi' he
    by_cases e : i = j
    · by_cases e' : i' = j
      · omega
      · simp only [if_pos e, if_neg e'] at he
        have := hA i' (by omega)
        omega
    · by_cases e' : i' = j
      · simp only [if_neg e, if_pos e'] at he
        have := hA i (by omega)
        omega
      · simp only [if_neg e, if_neg e'] at he
        exact h3 i i' (by omega) (by omega) he

theorem Tryz.infoBs : (Tryz.prog.info? 22).map (fun i => (i.zero, i.size, i.bytes)) = some (some (.slice none 0 0), 1, 24) := by kernel_rfl

set_option maxRecDepth 100000 in
set_option maxHeartbeats 800000 in
theorem l1Cut_any (a : Option Addr) (cap : Nat) (zs : List Int) (w : World) (h : Reads .u8 w a zs) (hcap : zs.length ≤ cap) (hl : zs.length ≤ 1048576) :
    Calls Tryz.prog 119 #[.slice a zs.length cap] w fun e w' => ∃ v, e = .returned v ∧ Grow2 w.heap.size w' v (piece zs) (cut zs).length ∧ Below w.heap.size w w' := by
  obtain ⟨i0, hi, hz0, hz1, hz2⟩ := info_parts Tryz.infoU8
  obtain ⟨i1, ki, kz0, kz1, kz2⟩ := info_parts Tryz.infoBs
  go_enter Tryz.func119, Tryz.ntmps119
  go_wp2
  go_loopw [3, 4, 5] (fun v i _ wr => ∃ j : Nat, 8 * j < zs.length + 8 ∧ i = .int .i64 (8 * (j : Int)) ∧ Grow2 w.heap.size wr v (piece zs) j ∧ Below w.heap.size w wr) (fun _ i _ _ => zs.length + 8 - (intOf i).toNat)
  case atStart => exact ⟨0, by omega, rfl, ⟨fun _ => 0, fun _ => 0, World.ownsRow_made w #[] 0 (Nat.le_refl _) (Nat.zero_le _) rfl, fun i hi => absurd hi (by omega), fun i i' hi => absurd hi (by omega)⟩, (Below.refl _ _).alloc (Nat.le_refl _) _⟩
  case round =>
    obtain ⟨j, hj, rfl, hgrow, hbel⟩ := hrel
    have hsz := hbel.size
    by_cases hlt : 8 * j < zs.length
    · obtain ⟨b, off, rfl, hb, hc⟩ := h (by intro e; simp [e] at hlt)
      obtain ⟨A, C, h1, h2, h3⟩ := hgrow
      have hlt' : 8 * (j : Int) < (zs.length : Int) := by omega
      have H1 := hide h1
      have H2 := hide h2
      have H3 := hide h3
      have HB := hide hbel
      have HC := hide hc
      clear h1 h2 h3 hbel hc h
      have hb' : b < wr.heap.size := Nat.lt_of_lt_of_le hb hsz
      have hcp : ∀ t, t < (piece zs j).length → wr.cell? ⟨b, off + 8 * j + t, none⟩ = some (.int .u8 ((piece zs j).getD t 0)) := fun t ht => by
        rw [piece_getD zs j t ht, Nat.add_assoc]
        exact (HB.out.cell (p := ⟨b, off + (8 * j + t), none⟩) hb).trans (HC.out (8 * j + t) (by rw [piece_length] at ht; omega))
      have HCP := hide hcp
      have hp0 : 0 < (piece zs j).length := by rw [piece_length]; omega
      have hp1 : (piece zs j).length ≤ maxLen := by rw [piece_length]; unfold maxLen; omega
      have hp2 : (piece zs j).length * 1 ≤ 140737488355328 := by rw [piece_length]; omega
      have hm1 : j + 1 ≤ maxLen := by unfold maxLen; omega
      have hm2 : (j + 1) * 24 ≤ 140737488355328 := by omega
      clear hcp
      by_cases hm : (zs.length : Int) < 8 * (j : Int) + 8
      · have hpl : zs.length - 8 * j = (piece zs j).length := by rw [piece_length]; omega
        have HPL := hide hpl
        clear hpl
        go_wp2_with (first | (at_builtin; refine wpList_append_fresh rfl (.tmp 19) (.tmp 23) 22 rfl 5 i0 .u8 1 Tryz.underlying22 hi hz0 hz1 hz2 rfl b (off + 8 * j) (zs.length - 8 * j) (cap - 8 * j) (piece zs j) rfl HPL.out hb' HCP.out hp0 hp1 hp2 ?_; intro g c w1 hown1 hg1 hgl1 hbel1; have k1 := hide (ownsRow_below H1.out hbel1); have HO1 := hide hown1; have HB1 := hide hbel1; have hsz1 : w.heap.size ≤ w1.heap.size := Nat.le_trans hsz hbel1.size; clear hown1 hbel1) | (at_builtin; refine wpList_append_one rfl (.tmp 18) (.tmp 25) 72 rfl w.heap.size 22 i1 (.slice none 0 0) 1 24 Tryz.underlying72 ki kz0 kz1 kz2 rfl (by decide) _ _ _ rfl k1.out rfl rfl (by intro u hu; simp at hu; subst hu; rfl) hm1 hm2 hsz1 ?_; intro v' w2 hown2 hkept; have hG : Hid (Grow2 w.heap.size w2 v' (piece zs) (j + 1)) := Grow2.push H1.out H2.out H3.out hsz HB1.out HO1.out hg1 hown2 hkept HPL.out (by first | exact HPL.out | (have := HPL.out; omega)); have hB2 := hide (Kept.below_own (HB.out.trans (HB1.out.mono hsz)) hsz1 k1.out hkept); clear hown2 hkept k1) | go_in)
        go_roundw
        case rel => exact ⟨j + 1, by omega, by go_num, hG.out, hB2.out⟩
        case measure => simp [intOf]; omega
      · have hpl : 8 * j + 8 - 8 * j = (piece zs j).length := by rw [piece_length]; omega
        have HPL := hide hpl
        clear hpl
        go_wp2_with (first | (at_builtin; refine wpList_append_fresh rfl (.tmp 19) (.tmp 23) 22 rfl 5 i0 .u8 1 Tryz.underlying22 hi hz0 hz1 hz2 rfl b (off + 8 * j) (8 * j + 8 - 8 * j) (cap - 8 * j) (piece zs j) rfl HPL.out hb' HCP.out hp0 hp1 hp2 ?_; intro g c w1 hown1 hg1 hgl1 hbel1; have k1 := hide (ownsRow_below H1.out hbel1); have HO1 := hide hown1; have HB1 := hide hbel1; have hsz1 : w.heap.size ≤ w1.heap.size := Nat.le_trans hsz hbel1.size; clear hown1 hbel1) | (at_builtin; refine wpList_append_one rfl (.tmp 18) (.tmp 25) 72 rfl w.heap.size 22 i1 (.slice none 0 0) 1 24 Tryz.underlying72 ki kz0 kz1 kz2 rfl (by decide) _ _ _ rfl k1.out rfl rfl (by intro u hu; simp at hu; subst hu; rfl) hm1 hm2 hsz1 ?_; intro v' w2 hown2 hkept; have hG : Hid (Grow2 w.heap.size w2 v' (piece zs) (j + 1)) := Grow2.push H1.out H2.out H3.out hsz HB1.out HO1.out hg1 hown2 hkept HPL.out (by first | exact HPL.out | (have := HPL.out; omega)); have hB2 := hide (Kept.below_own (HB.out.trans (HB1.out.mono hsz)) hsz1 k1.out hkept); clear hown2 hkept k1) | go_in)
        go_roundw
        case rel => exact ⟨j + 1, by omega, by go_num, hG.out, hB2.out⟩
        case measure => simp [intOf]; omega
    · have hje : j = (cut zs).length := by rw [cut_length]; omega
      subst hje
      go_wp2
      go_ret
      exact ⟨_, rfl, hgrow, hbel⟩


theorem Grow2.mono {B B' : Nat} {w : World} {v : Value} {P : Nat → List Int} {j : Nat} (h : Grow2 B w v P j) (hB : B' ≤ B) : Grow2 B' w v P j := by
  obtain ⟨A, C, h1, h2, h3⟩ := h
  exact ⟨A, C, ownsRow_mono h1 hB, fun i hi => ownsRow_mono (h2 i hi) hB, h3⟩
theorem Grow2.kept {S : Nat → Prop} {B : Nat} {w w' : World} {v : Value} {P : Nat → List Int} {j : Nat} (h : Grow2 B w v P j) (hk : Kept S w w') (hS : ∀ b, B ≤ b → ¬ S b) : Grow2 B w' v P j := by
  obtain ⟨A, C, h1, h2, h3⟩ := h
  exact ⟨A, C, ownsRow_kept h1 hk (fun b hb => hS b (h1.lt b hb).1), fun i hi => ownsRow_kept (h2 i hi) hk (fun b hb => hS b ((h2 i hi).lt b hb).1), h3⟩

set_option maxRecDepth 100000 in
set_option maxHeartbeats 800000 in
theorem implCutChunks_ok (a : Option Addr) (cap : Nat) (zs : List Int) (w : World) (h : Reads .u8 w a zs) (hcap : zs.length ≤ cap) (hl : zs.length ≤ 24) :
    Calls Tryz.prog 49 #[.slice a zs.length cap] w fun e w' => ∃ v, e = .returned (.agg #[.int .i64 0, v]) ∧ Grow2 w.heap.size w' v (piece zs) (cut zs).length ∧ Below w.heap.size w w' := by
  obtain ⟨i1, ki, kz0, kz1, kz2⟩ := info_parts Tryz.infoBs
  have hl' : ¬ (24 : Int) < (zs.length : Int) := by omega
  go_enter Tryz.func49, Tryz.ntmps49
  go_wp2
  go_loopw [3, 4, 5] (fun v i _ wr => ∃ j : Nat, 8 * j < zs.length + 8 ∧ i = .int .i64 (8 * (j : Int)) ∧ Grow2 (w.heap.size + 1) wr v (piece zs) j ∧ wr.cell? ⟨w.heap.size, 0, none⟩ = some (.int .i64 0) ∧ wr.cell? ⟨w.heap.size, 1, none⟩ = some (.slice none 0 0) ∧ wr.frozen? ⟨w.heap.size, 0, none⟩ = false ∧ wr.frozen? ⟨w.heap.size, 1, none⟩ = false ∧ w.heap.size + 1 ≤ wr.heap.size ∧ Below w.heap.size w wr) (fun _ i _ _ => zs.length + 8 - (intOf i).toNat)
  case atStart => exact ⟨0, by omega, rfl, ⟨fun _ => 0, fun _ => 0, World.ownsRow_nil _ _ _ _, fun i hi => absurd hi (by omega), fun i i' hi => absurd hi (by omega)⟩, by simp, by simp, by simp, by simp, by simp, (Below.refl _ _).alloc (Nat.le_refl _) _⟩
  case round =>
    obtain ⟨j, hj, rfl, hgrow, q0, q1, q2, q3, hsz, hbel⟩ := hrel
    by_cases hlt : 8 * j < zs.length
    · obtain ⟨b, off, rfl, hb, hc⟩ := h (by intro e; simp [e] at hlt)
      obtain ⟨A, C, h1, h2, h3⟩ := hgrow
      obtain ⟨av, cv, rfl⟩ := ownsRow_shape h1
      have hlt' : 8 * (j : Int) < (zs.length : Int) := by omega
      have H1 := hide h1
      have H2 := hide h2
      have H3 := hide h3
      have HB := hide hbel
      have HC := hide hc
      clear h1 h2 h3 hbel hc h
      have hb' : b < wr.heap.size := by omega
      have hcp : ∀ t, t < (piece zs j).length → wr.cell? ⟨b, off + 8 * j + t, none⟩ = some (.int .u8 ((piece zs j).getD t 0)) := fun t ht => by
        rw [piece_getD zs j t ht, Nat.add_assoc]
        exact (HB.out.cell (p := ⟨b, off + (8 * j + t), none⟩) hb).trans (HC.out (8 * j + t) (by rw [piece_length] at ht; omega))
      have HCP := hide hcp
      have hp0 : 0 < (piece zs j).length := by rw [piece_length]; omega
      have hp1 : (piece zs j).length ≤ 1048576 := by rw [piece_length]; omega
      have hm1 : j + 1 ≤ maxLen := by unfold maxLen; omega
      have hm2 : (j + 1) * 24 ≤ 140737488355328 := by omega
      clear hcp
      by_cases hm : (zs.length : Int) < 8 * (j : Int) + 8
      · have hpl : zs.length - 8 * j = (piece zs j).length := by rw [piece_length]; omega
        have HPL := hide hpl
        clear hpl
        go_wp2_with (first | (go_at_call 94; refine (clone_any b (off + 8 * j) (cap - 8 * j) (piece zs j) wr HCP.out hb' hp0 hp1 _ (by first | exact HPL.out | (have := HPL.out; omega))).mono ?_; rintro e w1 ⟨g, c, rfl, hown1, hg1, hgl1, hbel1⟩; have k1 := hide (ownsRow_below H1.out hbel1); have HO1 := hide hown1; have HB1 := hide hbel1; have hsz1 : w.heap.size + 1 ≤ w1.heap.size := Nat.le_trans hsz hbel1.size; clear hown1 hbel1) | (at_builtin; refine wpList_append_one rfl (.tmp 21) (.tmp 27) 72 rfl (w.heap.size + 1) 22 i1 (.slice none 0 0) 1 24 Tryz.underlying72 ki kz0 kz1 kz2 rfl (by decide) _ _ _ rfl k1.out rfl rfl (by intro u hu; simp at hu; subst hu; rfl) hm1 hm2 hsz1 ?_; intro v' w2 hown2 hkept; have hG : Hid (Grow2 (w.heap.size + 1) w2 v' (piece zs) (j + 1)) := Grow2.push H1.out H2.out H3.out hsz HB1.out HO1.out hg1 hown2 hkept (by first | exact HPL.out | (have := HPL.out; omega)) (by first | exact HPL.out | (have := HPL.out; omega)); have hN := hide (Kept.below hkept hsz1 (fun k hk' he => by have := (k1.out.lt k he).1; omega)); have hz2 := hide hkept.size; clear hown2 hkept k1))
        have hB1 := (HB1.out.mono hsz).trans hN.out
        go_roundw
        case rel => exact ⟨j + 1, by omega, by go_num, hG.out, (hB1.cell (p := ⟨w.heap.size, 0, none⟩) (by simp)).trans q0, (hB1.cell (p := ⟨w.heap.size, 1, none⟩) (by simp)).trans q1, (hB1.frozen (p := ⟨w.heap.size, 0, none⟩) (by simp)).trans q2, (hB1.frozen (p := ⟨w.heap.size, 1, none⟩) (by simp)).trans q3, Nat.le_trans hsz1 hz2.out, HB.out.trans (hB1.mono (by omega))⟩
        case measure => simp [intOf]; omega
      · have hpl : 8 * j + 8 - 8 * j = (piece zs j).length := by rw [piece_length]; omega
        have HPL := hide hpl
        clear hpl
        go_wp2_with (first | (go_at_call 94; refine (clone_any b (off + 8 * j) (cap - 8 * j) (piece zs j) wr HCP.out hb' hp0 hp1 _ (by first | exact HPL.out | (have := HPL.out; omega))).mono ?_; rintro e w1 ⟨g, c, rfl, hown1, hg1, hgl1, hbel1⟩; have k1 := hide (ownsRow_below H1.out hbel1); have HO1 := hide hown1; have HB1 := hide hbel1; have hsz1 : w.heap.size + 1 ≤ w1.heap.size := Nat.le_trans hsz hbel1.size; clear hown1 hbel1) | (at_builtin; refine wpList_append_one rfl (.tmp 21) (.tmp 27) 72 rfl (w.heap.size + 1) 22 i1 (.slice none 0 0) 1 24 Tryz.underlying72 ki kz0 kz1 kz2 rfl (by decide) _ _ _ rfl k1.out rfl rfl (by intro u hu; simp at hu; subst hu; rfl) hm1 hm2 hsz1 ?_; intro v' w2 hown2 hkept; have hG : Hid (Grow2 (w.heap.size + 1) w2 v' (piece zs) (j + 1)) := Grow2.push H1.out H2.out H3.out hsz HB1.out HO1.out hg1 hown2 hkept (by first | exact HPL.out | (have := HPL.out; omega)) (by first | exact HPL.out | (have := HPL.out; omega)); have hN := hide (Kept.below hkept hsz1 (fun k hk' he => by have := (k1.out.lt k he).1; omega)); have hz2 := hide hkept.size; clear hown2 hkept k1))
        have hB1 := (HB1.out.mono hsz).trans hN.out
        go_roundw
        case rel => exact ⟨j + 1, by omega, by go_num, hG.out, (hB1.cell (p := ⟨w.heap.size, 0, none⟩) (by simp)).trans q0, (hB1.cell (p := ⟨w.heap.size, 1, none⟩) (by simp)).trans q1, (hB1.frozen (p := ⟨w.heap.size, 0, none⟩) (by simp)).trans q2, (hB1.frozen (p := ⟨w.heap.size, 1, none⟩) (by simp)).trans q3, Nat.le_trans hsz1 hz2.out, HB.out.trans (hB1.mono (by omega))⟩
        case measure => simp [intOf]; omega
    · have hje : j = (cut zs).length := by rw [cut_length]; omega
      subst hje
      obtain ⟨av, cv, rfl⟩ : ∃ a c, u3 = .slice a (cut zs).length c := by obtain ⟨A, C, h1, h2, h3⟩ := hgrow; exact ownsRow_shape h1
      have HG := hide hgrow
      have HB := hide hbel
      clear hgrow hbel
      go_wp2
      refine bodyPost_ret (v := .agg #[.int .i64 0, .slice av (cut zs).length cv]) (by simp [results, Tryz.results49, go_sem, q0, q1]) rfl ⟨_, rfl, ?_, (HB.out.setCell (Nat.le_refl _) _).setCell (Nat.le_refl _) _⟩
      exact (HG.out.kept (S := fun b => b = w.heap.size) (Kept.two _ _ _ _ _ _) (fun b hb e => by omega)).mono (by omega)

end Go.Proofs.YtejipahfodhmjaaGreat

namespace Go.Proofs.YtejipahfodhmjaaGreat
open Go.RowKit
set_option linter.unusedVariables false

theorem Tryz.infoI64 : (Tryz.prog.info? 2).map (fun i => (i.zero, i.size, i.bytes)) = some (some (.int .i64 0), 1, 8) := by kernel_rfl

end Go.Proofs.YtejipahfodhmjaaGreat

namespace Go.Proofs.YtejipahfodhmjaaGreat
open Go.RowKit Go.Maps
set_option linter.unusedVariables false

theorem Tryz.infoEn : (Tryz.prog.info? 40).map (fun i => (i.zero, i.size, i.bytes)) = some (some (.agg #[.string ⟨#[]⟩, .int .i64 0, .int .i64 0, .slice none 0 0]), 4, 56) := by kernel_rfl

structure Rw where
  e : En
  a : Option Addr
  c : Nat
def cellsR (r : Rw) : List Value := [.string (str r.e.path), .int .i64 r.e.kind, .int .i64 r.e.size, .slice r.a r.e.chunks.length r.c]
def rowR (rs : List Rw) : List Value := rs.flatMap cellsR
theorem rowR_append (a b : List Rw) : rowR (a ++ b) = rowR a ++ rowR b := by simp [rowR]
theorem rowR_length : ∀ rs : List Rw, (rowR rs).length = rs.length * 4
  | [] => rfl
  | r :: rs => by
    have := rowR_length rs
    simp only [rowR, List.flatMap_cons, List.length_append, List.length_cons] at this ⊢
    rw [this]; simp [cellsR]; omega
theorem rowR_get : ∀ (rs : List Rw) (i q : Nat) (r : Rw), rs[i]? = some r → q < 4 → (rowR rs)[i * 4 + q]? = (cellsR r)[q]?
  | [], i, q, r, h, _ => by simp at h
  | x :: rs, 0, q, r, h, hq => by
    simp only [List.getElem?_cons_zero, Option.some.injEq] at h
    subst h
    simp only [rowR, List.flatMap_cons, Nat.zero_mul, Nat.zero_add]
    rw [List.getElem?_append_left (by simp [cellsR]; omega)]
  | x :: rs, i + 1, q, r, h, hq => by
    have := rowR_get rs i q r (by simpa using h) hq
    rw [← this]
    simp only [rowR, List.flatMap_cons]
    rw [List.getElem?_append_right (by simp [cellsR]; omega)]
    congr 1
    simp [cellsR]; omega
theorem rowR_drop : ∀ (rs : List Rw) (k : Nat), (rowR rs).drop (k * 4) = rowR (rs.drop k)
  | rs, 0 => by simp
  | [], k + 1 => by simp [rowR]
  | x :: rs, k + 1 => by
    have := rowR_drop rs k
    rw [List.drop_succ_cons, ← this]
    simp only [rowR, List.flatMap_cons]
    rw [show (k + 1) * 4 = (cellsR x).length + k * 4 from by simp [cellsR]; omega, List.drop_length_add_append]
theorem rowR_take : ∀ (rs : List Rw) (k : Nat), (rowR rs).take (k * 4) = rowR (rs.take k)
  | rs, 0 => by simp [rowR]
  | [], k + 1 => by simp [rowR]
  | x :: rs, k + 1 => by
    have := rowR_take rs k
    rw [List.take_succ_cons]
    simp only [rowR, List.flatMap_cons] at this ⊢
    rw [show (k + 1) * 4 = (cellsR x).length + k * 4 from by simp [cellsR]; omega, List.take_length_add_append, this]
theorem rowR_one (rs : List Rw) : ∀ u ∈ rowR rs, u.oneCell' = true := by
  intro u hu
  simp only [rowR, List.mem_flatMap] at hu
  obtain ⟨r, _, hr⟩ := hu
  simp only [cellsR, List.mem_cons, List.not_mem_nil, or_false] at hr
  rcases hr with rfl | rfl | rfl | rfl <;> rfl

def SE (B : Nat) (w : World) (v : Value) (es : List En) : Prop :=
  ∃ rs : List Rw, rs.map Rw.e = es ∧ w.ownsRow B 40 4 v es.length (rowR rs) ∧ ∀ r ∈ rs, Reads .i64 w r.a r.e.chunks
def GE (B T : Nat) (w : World) (v : Value) (es : List En) : Prop :=
  ∃ rs : List Rw, rs.map Rw.e = es ∧ w.ownsRow B 40 4 v es.length (rowR rs) ∧
    (∀ r ∈ rs, w.ownsRow B 2 1 (.slice r.a r.e.chunks.length r.c) r.e.chunks.length (r.e.chunks.map (Value.int .i64))) ∧
    rs.Pairwise (fun r r' => ∀ g, r.a.map Addr.block = some g → r'.a.map Addr.block ≠ some g) ∧
    (∀ r ∈ rs, ∀ g, r.a.map Addr.block = some g → g < T) ∧ ∀ b, v.ownBlock = some b → b < T

theorem ownInts_reads {w : World} {B : Nat} {e : TypeId} {k : IntKind} {a : Option Addr} {n c : Nat} {zs : List Int} (h : w.ownsRow B e 1 (.slice a n c) n (zs.map (Value.int k))) (hn : n = zs.length) : Reads k w a zs := by
  intro hz
  have h0 : 0 < n := by rw [hn]; exact List.length_pos_iff.2 hz
  obtain ⟨g, cap, hv, hg, hgl, hc, hf⟩ := ownsRow_ints h hn h0
  simp only [Value.slice.injEq, true_and] at hv
  exact ⟨g, 0, hv.1, hgl, fun i hi => by rw [Nat.zero_add]; exact hc i (by omega)⟩
theorem GE.se {B T : Nat} {w : World} {v : Value} {es : List En} (h : GE B T w v es) : SE B w v es := by
  obtain ⟨rs, e, h1, h2, _⟩ := h
  exact ⟨rs, e, h1, fun r hr => ownInts_reads (h2 r hr) rfl⟩
theorem SE.shape {B : Nat} {w : World} {v : Value} {es : List En} (h : SE B w v es) : ∃ a c, v = .slice a es.length c := by
  obtain ⟨rs, _, h1, _⟩ := h
  exact ownsRow_shape h1
theorem SE.rd {B : Nat} {w : World} {a : Option Addr} {n c : Nat} {es : List En} (h : SE B w (.slice a n c) es) : RdE w a es := by
  intro hz
  obtain ⟨rs, he, h1, h2⟩ := h
  have h0 : 0 < es.length := List.length_pos_iff.2 hz
  have hl : rs.length = es.length := by rw [← he, List.length_map]
  rcases h1.2 with ⟨_, h0'⟩ | ⟨g, cap, cur, h', hb, hh, hnc, hcm, hcs, htake⟩
  · omega
  · simp only [Value.slice.injEq] at h'
    obtain ⟨rfl, rfl, rfl⟩ := h'
    refine ⟨g, 0, fun i => (rs[i]?.map Rw.a).getD none, fun i => (rs[i]?.map Rw.c).getD 0, rfl, (h1.lt g rfl).2, fun i e hi => ?_⟩
    have hi0 : i < es.length := (List.getElem?_eq_some_iff.1 hi).1
    obtain ⟨r, hr⟩ : ∃ r, rs[i]? = some r := ⟨rs[i]'(by omega), List.getElem?_eq_getElem (by omega)⟩
    have hre : r.e = e := by
      have : (rs.map Rw.e)[i]? = some r.e := by rw [List.getElem?_map, hr]; rfl
      rw [he, hi] at this
      exact (Option.some.inj this).symm
    have hc := fun q hq => (h1.cellAt (i * 4 + q) (by omega)).trans (rowR_get rs i q r hr hq)
    simp only [hr, Option.map_some, Option.getD_some, Nat.zero_add]
    rw [← hre]
    exact ⟨hc 0 (by decide), hc 1 (by decide), hc 2 (by decide), hc 3 (by decide), h2 r (List.mem_of_getElem? hr)⟩
theorem GE.rd {B T : Nat} {w : World} {a : Option Addr} {n c : Nat} {es : List En} (h : GE B T w (.slice a n c) es) : RdE w a es := h.se.rd
theorem own_block {a : Option Addr} {n c g : Nat} (hb : (Value.slice a n c).ownBlock = some g) : a.map Addr.block = some g := by
  cases a with
  | none => simp [Value.ownBlock] at hb
  | some x => simpa [Value.ownBlock] using hb
theorem block_own {a : Option Addr} {n c g : Nat} (hb : a.map Addr.block = some g) : (Value.slice a n c).ownBlock = some g := by
  cases a with
  | none => simp at hb
  | some x => simpa [Value.ownBlock] using hb
theorem GE.kept {S : Nat → Prop} {B T : Nat} {w w' : World} {v : Value} {es : List En} (h : GE B T w v es) (hk : Kept S w w') (hS : ∀ b, B ≤ b → b < T → ¬ S b) : GE B T w' v es := by
  obtain ⟨rs, he, h1, h2, h3, h4, h5⟩ := h
  exact ⟨rs, he, ownsRow_kept h1 hk (fun b hb => hS b (h1.lt b hb).1 (h5 b hb)), fun r hr => ownsRow_kept (h2 r hr) hk (fun b hb => hS b ((h2 r hr).lt b hb).1 (h4 r hr b (own_block hb))), h3, h4, h5⟩
theorem GE.below {B T : Nat} {w w' : World} {v : Value} {es : List En} (h : GE B T w v es) (hk : Below w.heap.size w w') : GE B T w' v es :=
  h.kept (S := fun _ => False) (Kept.of_below hk) (fun _ _ _ => id)
theorem GE.mono {B B' T : Nat} {w : World} {v : Value} {es : List En} (h : GE B T w v es) (hB : B' ≤ B) : GE B' T w v es := by
  obtain ⟨rs, he, h1, h2, h3, h4, h5⟩ := h
  exact ⟨rs, he, ownsRow_mono h1 hB, fun r hr => ownsRow_mono (h2 r hr) hB, h3, h4, h5⟩
theorem GE.wide {B T T' : Nat} {w : World} {v : Value} {es : List En} (h : GE B T w v es) (hT : T ≤ T') : GE B T' w v es := by
  obtain ⟨rs, he, h1, h2, h3, h4, h5⟩ := h
  exact ⟨rs, he, h1, h2, h3, fun r hr g hg => Nat.lt_of_lt_of_le (h4 r hr g hg) hT, fun b hb => Nat.lt_of_lt_of_le (h5 b hb) hT⟩
theorem GE.nil (B T : Nat) (w : World) : GE B T w (.slice none 0 0) [] :=
  ⟨[], rfl, World.ownsRow_nil _ _ _ _, fun r hr => by simp at hr, List.Pairwise.nil, fun r hr => by simp at hr, fun b hb => by simp [Value.ownBlock] at hb⟩
theorem GE.push {B : Nat} {w w1 w2 : World} {v v' : Value} {es : List En} {rs : List Rw} {e : En} {a : Option Addr} {c : Nat} (he : rs.map Rw.e = es)
    (h1 : w.ownsRow B 40 4 v es.length (rowR rs))
    (h2 : ∀ r ∈ rs, w.ownsRow B 2 1 (.slice r.a r.e.chunks.length r.c) r.e.chunks.length (r.e.chunks.map (Value.int .i64)))
    (h3 : rs.Pairwise (fun r r' => ∀ g, r.a.map Addr.block = some g → r'.a.map Addr.block ≠ some g)) (hB : B ≤ w.heap.size) (hbel : Below w.heap.size w w1)
    (hown : w1.ownsRow w.heap.size 2 1 (.slice a e.chunks.length c) e.chunks.length (e.chunks.map (Value.int .i64)))
    (hv' : w2.ownsRow B 40 4 v' (es.length + 1) (rowR rs ++ cellsR ⟨e, a, c⟩))
    (hk : Kept (fun b => v.ownBlock = some b) w1 w2) : GE B w2.heap.size w2 v' (es ++ [e]) := by
  have hA : ∀ r ∈ rs, ∀ g', r.a.map Addr.block = some g' → g' < w.heap.size := fun r hr g' hg => ((h2 r hr).lt g' (block_own hg)).2
  have hg0 : ∀ g', a.map Addr.block = some g' → w.heap.size ≤ g' ∧ g' < w1.heap.size := fun g' hg => hown.lt g' (block_own hg)
  have k1 := ownsRow_below h1 hbel
  have hsz := hk.size
  have hsz1 := hbel.size
  refine ⟨rs ++ [⟨e, a, c⟩], by rw [List.map_append, he]; rfl, ?_, ?_, ?_, ?_, fun b hb => (hv'.lt b hb).2⟩
  · rw [rowR_append, List.length_append]
    simpa [rowR] using hv'
  · intro r hr
    rcases List.mem_append.1 hr with hr | hr
    · have k2 := ownsRow_below (h2 r hr) hbel
      exact ownsRow_kept k2 hk (fun b hb hS => ownsRow_apart k1 k2 (by decide) hS hb)
    · simp only [List.mem_singleton] at hr
      subst hr
      exact ownsRow_kept (ownsRow_mono hown hB) hk (fun b hb hS => ownsRow_apart k1 hown (by decide) hS hb)
  · rw [List.pairwise_append]
    refine ⟨h3, List.pairwise_singleton _ _, fun r hr r' hr' g hg hg' => ?_⟩
    simp only [List.mem_singleton] at hr'
    subst hr'
    have := hA r hr g hg
    have := hg0 g hg'
    omega
  · intro r hr g hg
    rcases List.mem_append.1 hr with hr | hr
    · have := hA r hr g hg
      omega
    · simp only [List.mem_singleton] at hr
      subst hr
      have := hg0 g hg
      omega
end Go.Proofs.YtejipahfodhmjaaGreat

