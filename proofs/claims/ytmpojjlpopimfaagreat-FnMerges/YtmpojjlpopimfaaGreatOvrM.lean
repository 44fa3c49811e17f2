/-
  The model's l8Over: what stands above a path.
-/
import Derived.Test.YtmpojjlpopimfaaGreatOvrL
namespace Go.Proofs.YtmpojjlpopimfaaGreat
open Go.RowKit Go.Maps
set_option linter.unusedVariables false
attribute [local go_sem ↓] Go.wp_at_zero Go.wp_at_succ

theorem find_at_none {es : List En} {p : Bs} (h : atE es p = none) : findE es p = none := by rw [atE_find, h]; rfl
theorem find_at_some {es : List En} {p : Bs} {k : Nat} (h : atE es p = some k) : ∃ e, es[k]? = some e ∧ findE es p = some e := by
  have hk := atE_lt h
  obtain ⟨e, he⟩ : ∃ e, es[k]? = some e := ⟨_, List.getElem?_eq_getElem hk⟩
  exact ⟨e, he, by rw [atE_find, h]; exact he⟩
theorem above_small {p : Bs} (hp : faultP p = 0) : ∀ u ∈ above p, u.length ≤ p.length := by
  intro u hu
  have hb : isBelow p u = true := by simpa [isBelow] using hu
  rw [isBelow_good hp] at hb
  have := below_len (of_decide_eq_true hb).2
  omega
set_option maxRecDepth 100000 in
set_option maxHeartbeats 6400000 in
theorem l8Over_any (a : Option Addr) (c n : Nat) (es : List En) (p : Bs) (w : World) (h : RdE w a es) (hn : n = es.length) (hl : es.length ≤ 1048576) (hp : faultP p = 0) (hpl : p.length ≤ 1048576) :
    Calls Tryz.prog 99 #[.slice a n c, .string (str p)] w fun r w' => r = .returned (.int .i64 (overN es (above p))) ∧ Below w.heap.size w w' := by
  subst hn
  have HR := hide h
  have hsz := str_size p
  have h1 : 1 ≤ (str p).size := faultP_pos (by rw [str_data]; exact hp)
  have HU := hide (show aboveN (cutB (str p).data.toList.tail) = above p from by rw [str_data, above_good hp])
  have HUl := hide (above_len p)
  clear h hp
  generalize above p = ups at *
  go_enter Tryz.func99, Tryz.ntmps99
  go_wp2_with fail
  refine (l3Above_any (str p) _ h1 (by omega)).mono ?_
  rintro r w1 ⟨v, rfl, ho, hb1⟩
  rw [HU.out] at ho
  obtain ⟨av, cv, rfl⟩ := ownsRow_shape ho
  have RU := hide (OwnS.reads ho)
  have B1 := hide hb1
  clear ho hb1 HU
  go_wp2_with fail
  go_loopw [5, 7] (fun v i wr => ∃ k : Nat, k ≤ ups.length ∧ v = .int .i64 (overN es (ups.take k)) ∧ i = .int .i64 k ∧ Hid (overN es (ups.take k) ≠ 2) ∧ Hid (Below w1.heap.size w1 wr)) (fun _ i _ => ups.length - (intOf i).toNat)
  case atStart => exact ⟨0, Nat.zero_le _, rfl, rfl, hide (by simp [overN]), hide (Below.refl _ _)⟩
  case round =>
    obtain ⟨k, hk, rfl, rfl, HN2, HW⟩ := hrel
    have hul := HUl.out
    by_cases hlt : k < ups.length
    · obtain ⟨b, off, rfl, hb, hc⟩ := (RU.out.below HW.out) (by intro e; simp [e] at hlt)
      have q0 := hc k hlt
      have hx : ups[k]? = some (ups.getD k []) := by rw [List.getD_eq_getElem?_getD, List.getElem?_eq_getElem hlt]; rfl
      clear hc
      generalize ups.getD k [] = u at *
      have HX := hide hx
      clear hx
      have HE := hide ((HR.out.below B1.out).below HW.out)
      have HAT := hide (l4At_any a c es.length es u wr HE.out rfl hl)
      cases ha : atE es u with
      | none =>
        have HZ := hide (over_take HX.out HN2.out (by rw [rank_none (find_at_none ha)]; decide))
        have HZ2 := hide (over_take_ne HX.out HN2.out (by rw [rank_none (find_at_none ha)]; decide))
        rw [rank_none (find_at_none ha)] at HZ
        rw [ha] at HAT
        have e1 : placeI none = -1 := rfl
        rw [e1] at HAT
        clear ha e1
        go_wp2_with fail
        refine HAT.out.mono ?_
        rintro r w2 ⟨rfl, rfl⟩
        clear q0
        go_wp2_with fail
        go_roundw
        case rel => exact ⟨k + 1, by omega, by rw [HZ.out]; rfl, by go_num, HZ2, HW⟩
        case measure => simp [intOf]; omega
      | some m =>
        obtain ⟨e, he, hf⟩ := find_at_some ha
        have hm := atE_lt ha
        rw [ha] at HAT
        have e1 : placeI (some m) = (m : Int) := rfl
        rw [e1] at HAT
        obtain ⟨bb, off2, e', x, cc, rfl, hb2, he', c0, c1, c2, c3, hr⟩ := HE.out.at hm
        have : e' = e := Option.some.inj (he'.symm.trans he)
        subst this
        have hk0 : ¬ (m : Int) < 0 := by omega
        have hk2 : (0 : Int) ≤ (m : Int) := by omega
        have hk1 : (m : Int) < (es.length : Int) := by omega
        clear ha e1 he he' hr c0 c2 c3
        by_cases h3 : e'.kind = 3
        · have HZ := hide (over_take_two HX.out (rank_two hf (Or.inl h3)))
          have h3' : (e'.kind == 3) = true := by simpa using h3
          clear h3 hf
          go_wp2_with fail
          refine HAT.out.mono ?_
          rintro r w2 ⟨rfl, rfl⟩
          go_wp2_with fail
          go_ret
          exact ⟨by rw [HZ.out]; rfl, below_next B1.out HW.out⟩
        · have h3' : (e'.kind == 3) = false := by simpa using h3
          by_cases h1k : e'.kind = 1
          · have HZ := hide (over_take_two HX.out (rank_two hf (Or.inr h1k)))
            have h1' : (e'.kind == 1) = true := by simpa using h1k
            clear h3 h1k hf
            go_wp2_with fail
            refine HAT.out.mono ?_
            rintro r w2 ⟨rfl, rfl⟩
            go_wp2_with fail
            go_ret
            exact ⟨by rw [HZ.out]; rfl, below_next B1.out HW.out⟩
          · have h1' : (e'.kind == 1) = false := by simpa using h1k
            by_cases h4 : e'.kind = 4
            · have hrk := rank_one hf h4
              have HZ := hide (over_take HX.out HN2.out (by rw [hrk]; decide))
              have HZ2 := hide (over_take_ne HX.out HN2.out (by rw [hrk]; decide))
              rw [hrk] at HZ
              have h4' : (e'.kind == 4) = true := by simpa using h4
              clear h3 h1k h4 hf hrk
              go_wp2_with fail
              refine HAT.out.mono ?_
              rintro r w2 ⟨rfl, rfl⟩
              go_wp2_with fail
              go_roundw
              case rel => exact ⟨k + 1, by omega, by rw [HZ.out]; rfl, by go_num, HZ2, HW⟩
              case measure => simp [intOf]; omega
            · have h4' : (e'.kind == 4) = false := by simpa using h4
              have hrk := rank_dir hf h1k h3 h4
              have HZ := hide (over_take HX.out HN2.out (by rw [hrk]; decide))
              have HZ2 := hide (over_take_ne HX.out HN2.out (by rw [hrk]; decide))
              rw [hrk] at HZ
              clear h3 h1k h4 hf hrk
              go_wp2_with fail
              refine HAT.out.mono ?_
              rintro r w2 ⟨rfl, rfl⟩
              go_wp2_with fail
              go_roundw
              case rel => exact ⟨k + 1, by omega, by rw [HZ.out]; rfl, by go_num, HZ2, HW⟩
              case measure => simp [intOf]; omega
    · have HE := hide (show ups.take k = ups from List.take_of_length_le (by omega))
      go_wp2_with fail
      go_ret
      exact ⟨by rw [HE.out]; rfl, below_next B1.out HW.out⟩
end Go.Proofs.YtmpojjlpopimfaaGreat
