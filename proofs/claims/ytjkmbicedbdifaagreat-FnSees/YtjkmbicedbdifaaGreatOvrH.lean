/-
  The model's l8Place, l8Asked, PlaceOver.
-/
import Derived.Test.YtjkmbicedbdifaaGreatJ3
import Derived.Test.YtjkmbicedbdifaaGreatOvrA
namespace Go.Proofs.YtjkmbicedbdifaaGreat
open Go.RowKit Go.Maps
set_option linter.unusedVariables false
attribute [local go_sem ↓] Go.wp_at_zero Go.wp_at_succ

theorem over_is_two {es : List En} {ups : List Bs} (h : overN es ups = 2) : ∃ u ∈ ups, rankE es u = 2 := by
  unfold overN at h
  split at h
  · rename_i h2
    obtain ⟨u, hu, hr⟩ := List.any_eq_true.1 h2
    exact ⟨u, hu, of_decide_eq_true hr⟩
  · split at h <;> omega
theorem rank_is_two {es : List En} {u : Bs} (h : rankE es u = 2) : ∃ d, findE es u = some d ∧ (d.kind = 3 ∨ d.kind = 1) := by
  unfold rankE at h
  cases hf : findE es u with
  | none => rw [hf] at h; simp at h
  | some d =>
    rw [hf] at h
    refine ⟨d, rfl, ?_⟩
    by_cases hk : d.kind = 3 ∨ d.kind = 1
    · exact hk
    · simp only [hk, if_false] at h
      split at h <;> omega
/-- Above an entry of a right layer there is nothing white and no file. -/
theorem over_there {es : List En} (h : Right es) {p : Bs} (hp : faultP p = 0) {e : En} (he : findE es p = some e) : overN es (above p) ≠ 2 := by
  intro h2
  obtain ⟨u, hu, hr⟩ := over_is_two h2
  obtain ⟨d, hd, hk⟩ := rank_is_two hr
  have hb : isBelow p u = true := by simpa [isBelow] using hu
  rw [isBelow_good hp] at hb
  obtain ⟨hpu, hbl⟩ := of_decide_eq_true hb
  obtain ⟨hem, rfl⟩ := find_mem he
  obtain ⟨d', hd', hpd, hk'⟩ := (right_fit.1 h).1.up hpu hem hbl
  have h3 := rise_find h.rise hd'
  rw [hpd, hd] at h3
  cases h3
  simp only [dirK, decide_eq_true_eq] at hk'
  omega
theorem up_over {es : List En} (h : Right es) (p : Bs) : ((above p).any fun u => (findE es u).any fun e => !decide (e.kind = 2)) = decide (overN es (above p) ≠ 0) := by
  rw [Bool.eq_iff_iff, decide_eq_true_iff, over_zero, List.any_eq_true]
  constructor
  · rintro ⟨u, hu, hr⟩
    have : hideAt es u = true := hr
    rw [rank_hide h] at this
    exact ⟨u, hu, of_decide_eq_true this⟩
  · rintro ⟨u, hu, hr⟩
    exact ⟨u, hu, by have : hideAt es u = true := by rw [rank_hide h]; exact decide_eq_true hr
                     exact this⟩
theorem seeL_at {ls : List (List En)} {m : Nat} {es : List En} (h : ls[m]? = some es) (q : Bs) : seeL ls m q = findE es q := by simp [seeL, h]
theorem seen_up {ls : List (List En)} {m : Nat} {es : List En} (h : ls[m]? = some es) (hR : Right es) {p : Bs} (hn : findE es p = none) (ho : overN es (above p) ≠ 0) : seenG (seeL ls) p (m + 1) = none := by
  refine seen_hid (by rw [seeL_at h]; exact hn) ?_
  have := up_over hR p
  rw [decide_eq_true ho] at this
  rw [← this]
  simp only [seeL_at h]
theorem seen_on {ls : List (List En)} {m : Nat} {es : List En} (h : ls[m]? = some es) (hR : Right es) {p : Bs} (hn : findE es p = none) (ho : overN es (above p) = 0) : seenG (seeL ls) p (m + 1) = seenG (seeL ls) p m := by
  refine seen_down (by rw [seeL_at h]; exact hn) ?_
  have := up_over hR p
  rw [decide_eq_false (by omega)] at this
  rw [← this]
  simp only [seeL_at h]

set_option maxRecDepth 100000 in
set_option maxHeartbeats 6400000 in
theorem l8Place_any (a : Option Addr) (c n : Nat) (ls : List (List En)) (p : Bs) (w : World) (h : RdL w a ls) (hn : n = ls.length) (h4 : ls.length ≤ 4) (hR : ∀ es ∈ ls, Right es) (hp : faultP p = 0) (hpl : p.length ≤ 1048576) :
    Calls Tryz.prog 30 #[.slice a n c, .string (str p)] w fun r w' => r = .returned (.int .i64 (placeI (seenL ls p))) ∧ Below w.heap.size w w' := by
  subst hn
  have HR := hide h
  have HRi := hide hR
  have HV0 := hide (show seenL ls p = seenG (seeL ls) p ls.length from seen_over h4)
  have hw1 : IntKind.i64.wrap ((ls.length : Int) - 1) = (ls.length : Int) - 1 := by simp [IntKind.wrap, IntKind.signed, IntKind.bits]; omega
  clear h hR
  generalize hV : seenL ls p = V at *
  clear hV
  go_enter Tryz.func30, Tryz.ntmps30
  go_wp2_with fail
  go_loopw [5] (fun i wr => ∃ k : Nat, k ≤ ls.length ∧ i = .int .i64 ((k : Int) - 1) ∧ Hid (V = seenG (seeL ls) p k) ∧ Hid (Below w.heap.size w wr)) (fun i _ => (intOf i + 1).toNat)
  case atStart => exact ⟨ls.length, Nat.le_refl _, rfl, HV0, hide (Below.refl _ _)⟩
  case round =>
    obtain ⟨k, hk, hi, HV, HW⟩ := hrel
    cases k with
    | zero =>
      rw [show ((0 : Nat) : Int) - 1 = -1 from rfl] at hi
      subst hi
      have HN := hide (show V = none from HV.out)
      go_wp2_with fail
      go_ret
      exact ⟨by rw [HN.out]; rfl, HW.out⟩
    | succ m =>
      rw [show ((m + 1 : Nat) : Int) - 1 = (m : Int) from by omega] at hi
      subst hi
      have hm0 : (0 : Int) ≤ (m : Int) := by omega
      have hm1 : (m : Int) < (ls.length : Int) := by omega
      have hm2 : IntKind.i64.wrap ((m : Int) - 1) = (m : Int) - 1 := by simp [IntKind.wrap, IntKind.signed, IntKind.bits]; omega
      obtain ⟨b, off, es, x, cc, rfl, hb, he, c0, hr⟩ := (HR.out.below HW.out).at (k := m) (by omega)
      have hRi := HRi.out es (List.mem_of_getElem? he)
      have hel := hRi.len
      have HX := hide he
      have HRI := hide hRi
      have HOV := hide (l8Over_any x cc es.length es p wr hr rfl (by omega) hp hpl)
      have HAT : Hid (∀ w', Below wr.heap.size wr w' → Calls Tryz.prog 72 #[.slice x es.length cc, .string (str p)] w' fun r w2 => r = .returned (.int .i64 (placeI (atE es p))) ∧ w2 = w') := hide (fun w' hb' => l4At_any x cc es.length es p w' (hr.below hb') rfl (by omega))
      have HRE := hide hr
      have KC : Hid (∀ w', Below wr.heap.size wr w' → w'.cell? ⟨b, off + m, none⟩ = some (.slice x es.length cc)) := hide (fun w' hb' => (hb'.cell (p := ⟨b, off + m, none⟩) hb).trans c0)
      clear he hRi hr
      cases ha : atE es p with
      | none =>
        have hf := find_at_none ha
        rw [ha] at HAT
        have e1 : placeI none = -1 := rfl
        rw [e1] at HAT
        clear ha e1
        rcases over_cases es (above p) with ho | ho | ho
        · have HN := hide (HV.out.trans (seen_on HX.out HRI.out hf ho))
          rw [ho] at HOV
          clear hf ho
          go_wp2_with fail
          refine HOV.out.mono ?_
          rintro r w1 ⟨rfl, hb1⟩
          have B1 := hide hb1
          have c1 := KC.out w1 hb1
          clear hb1 c0
          go_wp2_with fail
          refine (HAT.out w1 B1.out).mono ?_
          rintro r w2 ⟨rfl, rfl⟩
          go_wp2_with fail
          go_roundw
          case rel => exact ⟨m, by omega, rfl, HN, hide (below_next HW.out B1.out)⟩
          case measure => simp [intOf]
        · have HN := hide (HV.out.trans (seen_up HX.out HRI.out hf (by omega)))
          rw [ho] at HOV
          clear hf ho
          go_wp2_with fail
          refine HOV.out.mono ?_
          rintro r w1 ⟨rfl, hb1⟩
          have B1 := hide hb1
          have c1 := KC.out w1 hb1
          clear hb1 c0
          go_wp2_with fail
          refine (HAT.out w1 B1.out).mono ?_
          rintro r w2 ⟨rfl, rfl⟩
          go_wp2_with fail
          go_ret
          exact ⟨by rw [HN.out]; rfl, below_next HW.out B1.out⟩
        · have HN := hide (HV.out.trans (seen_up HX.out HRI.out hf (by omega)))
          rw [ho] at HOV
          clear hf ho
          go_wp2_with fail
          refine HOV.out.mono ?_
          rintro r w1 ⟨rfl, hb1⟩
          have B1 := hide hb1
          clear hb1 c0
          go_wp2_with fail
          go_ret
          exact ⟨by rw [HN.out]; rfl, below_next HW.out B1.out⟩
      | some q =>
        obtain ⟨e, he, hf⟩ := find_at_some ha
        have hq := atE_lt ha
        have hno := over_there HRI.out hp hf
        have HHit := hide (HV.out.trans (seen_hit (by rw [seeL_at HX.out]; exact hf)))
        rw [ha] at HAT
        have e1 : placeI (some q) = (q : Int) := rfl
        rw [e1] at HAT
        have hq0 : (0 : Int) ≤ (q : Int) := by omega
        have hq1 : (q : Int) < (es.length : Int) := by omega
        obtain ⟨bb, off2, e', x', cc', rfl, hb2, he', z0, z1, z2, z3, hr'⟩ := HRE.out.at hq
        have : e' = e := Option.some.inj (he'.symm.trans he)
        subst this
        have KZ : Hid (∀ w', Below wr.heap.size wr w' → w'.cell? ⟨bb, off2 + q * 4 + 1, none⟩ = some (.int .i64 e'.kind)) := hide (fun w' hb' => (hb'.cell (p := ⟨bb, off2 + q * 4 + 1, none⟩) hb2).trans z1)
        have h2 : (overN es (above p) == 2) = false := by simpa using hno
        generalize overN es (above p) = O at *
        clear ha e1 he he' hr' z0 z1 z2 z3 hno hf
        by_cases h3 : e'.kind = 3
        · rw [if_pos h3] at HHit
          have h3' : (e'.kind == 3) = true := by simpa using h3
          clear h3
          go_wp2_with fail
          refine HOV.out.mono ?_
          rintro r w1 ⟨rfl, hb1⟩
          have B1 := hide hb1
          have c1 := KC.out w1 hb1
          have z1 := KZ.out w1 hb1
          clear hb1 c0
          go_wp2_with fail
          refine (HAT.out w1 B1.out).mono ?_
          rintro r w2 ⟨rfl, rfl⟩
          go_wp2_with fail
          go_ret
          exact ⟨by rw [HHit.out]; rfl, below_next HW.out B1.out⟩
        · rw [if_neg h3] at HHit
          have h3' : (e'.kind == 3) = false := by simpa using h3
          clear h3
          go_wp2_with fail
          refine HOV.out.mono ?_
          rintro r w1 ⟨rfl, hb1⟩
          have B1 := hide hb1
          have c1 := KC.out w1 hb1
          have z1 := KZ.out w1 hb1
          clear hb1 c0
          go_wp2_with fail
          refine (HAT.out w1 B1.out).mono ?_
          rintro r w2 ⟨rfl, rfl⟩
          go_wp2_with fail
          go_ret
          exact ⟨by rw [HHit.out]; rfl, below_next HW.out B1.out⟩
set_option maxRecDepth 100000 in
set_option maxHeartbeats 1600000 in
theorem l8Asked_any (a : Option Addr) (c n : Nat) (ls : List (List En)) (p : Bs) (w : World) (h : RdL w a ls) (hn : n = ls.length) (hl : ls.length ≤ 1048576) (hs : SmallL ls) (hg : ∀ es ∈ ls, layFault es = layFaultP es) (hpl : p.length ≤ 1048576) :
    Calls Tryz.prog 55 #[.slice a n c, .string (str p)] w fun r w' => r = .returned (.int .i64 (askL ls p)) ∧ Below w.heap.size w w' := by
  subst hn
  have hsz := str_size p
  have HLF := hide (specLayersFault_any a c ls.length ls w h rfl hl hs hg)
  have HPF : Hid (∀ w', Calls Tryz.prog 90 #[.string (str p)] w' fun e w2 => e = .returned (.int .i64 (faultP p)) ∧ Below w'.heap.size w' w2) := hide (fun w' => by have h1 := l3Fault_any (str p) w' (by omega); rw [str_data] at h1; exact h1)
  clear h hs hg
  by_cases hz : layersP ls = 0
  · have HZ := hide (show askL ls p = faultP p by rw [askL, if_pos hz])
    rw [hz] at HLF
    clear hz
    go_enter Tryz.func55, Tryz.ntmps55
    go_wp2_with fail
    refine HLF.out.mono ?_
    rintro r w1 ⟨rfl, hb1⟩
    have B1 := hide hb1
    clear hb1
    go_wp2_with fail
    refine (HPF.out w1).mono ?_
    rintro r w2 ⟨rfl, hb2⟩
    have B2 := hide (below_next B1.out hb2)
    clear hb2
    go_wp2_with fail
    go_ret
    exact ⟨by rw [HZ.out]; rfl, B2.out⟩
  · have HZ := hide (show askL ls p = layersP ls by rw [askL, if_neg hz])
    generalize layersP ls = F at *
    have hz2 : (F != 0) = true := by simp; exact hz
    clear hz
    go_enter Tryz.func55, Tryz.ntmps55
    go_wp2_with fail
    refine HLF.out.mono ?_
    rintro r w1 ⟨rfl, hb1⟩
    have B1 := hide hb1
    clear hb1
    go_wp2_with fail
    go_ret
    exact ⟨by rw [HZ.out]; rfl, B1.out⟩
set_option maxRecDepth 100000 in
set_option maxHeartbeats 1600000 in
theorem specPlaceOver_any (a : Option Addr) (c n : Nat) (ls : List (List En)) (p : Bs) (w : World) (h : RdL w a ls) (hn : n = ls.length) (hl : ls.length ≤ 1048576) (hs : SmallL ls) (hg : ∀ es ∈ ls, layFault es = layFaultP es) (hpl : p.length ≤ 1048576) :
    Calls Tryz.prog 21 #[.slice a n c, .string (str p)] w fun r w' => r = .returned (.agg #[.int .i64 (plcC ls p), .int .i64 (plcV ls p)]) ∧ Below w.heap.size w w' := by
  subst hn
  have X0 := hide (Box.new w (.int .i64 0) (.int .i64 0) 49)
  have B0 := hide (below_alloc w (.cells #[.int .i64 0, .int .i64 0] 49))
  have HR := hide h
  have HAS := hide (l8Asked_any a c ls.length ls p _ (h.below B0.out) rfl hl hs hg hpl)
  clear h hs hg
  by_cases hz : askL ls p = 0
  · obtain ⟨h4, hRs, hp⟩ := askL_right hz
    have HPL : Hid (∀ u : World, Below w.heap.size w u → Calls Tryz.prog 30 #[.slice a ls.length c, .string (str p)] u fun r w' => r = .returned (.int .i64 (placeI (seenL ls p))) ∧ Below u.heap.size u w') := hide (fun u hu => l8Place_any a c ls.length ls p u (HR.out.below hu) rfl h4 hRs hp hpl)
    rw [hz] at HAS
    cases hs : seenL ls p with
    | none =>
      obtain ⟨hc, hv, -⟩ := plc_none hz hs
      have HC := hide (And.intro hc hv)
      rw [hs, show placeI none = -1 from rfl] at HPL
      clear hs hc hv hz hRs
      go_enter Tryz.func21, Tryz.ntmps21
      go_wp2_with fail
      refine HAS.out.mono ?_
      rintro r w1 ⟨rfl, hb1⟩
      have B1 := hide (below_next B0.out hb1)
      have X1 := hide (X0.out.below hb1)
      clear hb1
      go_wp2_with fail
      refine (HPL.out w1 B1.out).mono ?_
      rintro r w2 ⟨rfl, hb2⟩
      have B2 := hide (below_next B1.out hb2)
      obtain ⟨⟨t0, t1⟩, t2, t3⟩ := X1.out.below hb2
      clear hb2
      go_wp2_with fail
      exact bodyPost_ret (v := .agg #[.int .i64 4, .int .i64 0]) (by simp [results, Tryz.results21, go_sem, t0, t1]) rfl (by rw [HC.out.1, HC.out.2]; exact ⟨rfl, ((B2.out.setCell (p := ⟨w.heap.size, 0, none⟩) (Nat.le_refl _) _).setCell (p := ⟨w.heap.size, 1, none⟩) (Nat.le_refl _) _)⟩)
    | some q =>
      obtain ⟨-, e, he, -⟩ := seen_some (show seenG (seeL ls) p 4 = some q from hs)
      obtain ⟨hc, hv, -⟩ := plc_some hz hs he
      have HC := hide (And.intro hc hv)
      rw [hs, show placeI (some q) = (q : Int) from rfl] at HPL
      have hq0 : ¬ (q : Int) < 0 := by omega
      clear hs hc hv hz hRs he
      go_enter Tryz.func21, Tryz.ntmps21
      go_wp2_with fail
      refine HAS.out.mono ?_
      rintro r w1 ⟨rfl, hb1⟩
      have B1 := hide (below_next B0.out hb1)
      have X1 := hide (X0.out.below hb1)
      clear hb1
      go_wp2_with fail
      refine (HPL.out w1 B1.out).mono ?_
      rintro r w2 ⟨rfl, hb2⟩
      have B2 := hide (below_next B1.out hb2)
      obtain ⟨⟨t0, t1⟩, t2, t3⟩ := X1.out.below hb2
      clear hb2
      go_wp2_with fail
      exact bodyPost_ret (v := .agg #[.int .i64 0, .int .i64 q]) (by simp [results, Tryz.results21, go_sem, t0, t1]) rfl (by rw [HC.out.1, HC.out.2]; exact ⟨rfl, ((B2.out.setCell (p := ⟨w.heap.size, 0, none⟩) (Nat.le_refl _) _).setCell (p := ⟨w.heap.size, 1, none⟩) (Nat.le_refl _) _)⟩)
  · obtain ⟨hc, hv, -⟩ := plc_bad hz
    have HC := hide (And.intro hc hv)
    clear hc hv
    generalize askL ls p = F at *
    have hz2 : (F != 0) = true := by simp; exact hz
    clear hz
    go_enter Tryz.func21, Tryz.ntmps21
    go_wp2_with fail
    refine HAS.out.mono ?_
    rintro r w1 ⟨rfl, hb1⟩
    have B1 := hide (below_next B0.out hb1)
    obtain ⟨⟨t0, t1⟩, t2, t3⟩ := X0.out.below hb1
    clear hb1
    go_wp2_with fail
    exact bodyPost_ret (v := .agg #[.int .i64 F, .int .i64 0]) (by simp [results, Tryz.results21, go_sem, t0, t1]) rfl (by rw [HC.out.1, HC.out.2]; exact ⟨rfl, ((B1.out.setCell (p := ⟨w.heap.size, 0, none⟩) (Nat.le_refl _) _).setCell (p := ⟨w.heap.size, 1, none⟩) (Nat.le_refl _) _)⟩)
set_option maxRecDepth 100000 in
set_option maxHeartbeats 1600000 in
theorem l8In_any (a : Option Addr) (c n : Nat) (ps : List Bs) (p : Bs) (w : World) (h : ReadsS w a ps) (hn : n = ps.length) (hl : ps.length ≤ 1048576) :
    Calls Tryz.prog 31 #[.slice a n c, .string (str p)] w fun r w' => r = .returned (.bool (decide (p ∈ ps))) ∧ w' = w := by
  subst hn
  have HR := hide h
  clear h
  go_enter Tryz.func31, Tryz.ntmps31
  go_wp2_with fail
  go_loopw [5] (fun i wr => ∃ k : Nat, k ≤ ps.length ∧ i = .int .i64 k ∧ wr = w ∧ Hid (p ∉ ps.take k)) (fun i _ => ps.length - (intOf i).toNat)
  case atStart => exact ⟨0, Nat.zero_le _, rfl, rfl, hide (by simp)⟩
  case round =>
    obtain ⟨k, hk, rfl, rfl, HN⟩ := hrel
    by_cases hlt : k < ps.length
    · obtain ⟨b, off, q, rfl, hb, he, c0⟩ := HR.out.at hlt
      have hk0 : (0 : Int) ≤ (k : Int) := by omega
      have hk1 : (k : Int) < (ps.length : Int) := by omega
      by_cases hq : q = p
      · have hq2 := str_yes hq
        have HT := hide (show decide (p ∈ ps) = true from decide_eq_true (by rw [← hq]; exact List.mem_of_getElem? he))
        clear hq he
        go_wp2_with fail
        go_ret
        exact ⟨by rw [HT.out]; rfl, rfl⟩
      · have hq2 := str_no hq
        have HT := hide (show p ∉ ps.take (k + 1) from by
          rw [take_at he]
          intro hm
          rcases List.mem_append.1 hm with hm | hm
          · exact HN.out hm
          · simp at hm; exact hq hm.symm)
        clear hq he
        go_wp2_with fail
        go_roundw
        case rel => exact ⟨k + 1, by omega, by go_num, (by first | rfl | trivial), HT⟩
        case measure => simp [intOf]; omega
    · have HT := hide (show decide (p ∈ ps) = false from decide_eq_false (by have := HN.out; rwa [List.take_of_length_le (by omega)] at this))
      go_wp2_with fail
      go_ret
      exact ⟨by rw [HT.out]; rfl, rfl⟩
end Go.Proofs.YtjkmbicedbdifaaGreat
