/-
  The program's EntryAt and DropBelow.
-/
import Derived.Test.YtmpojjlpopimfaaGreatJ2
namespace Go.Proofs.YtmpojjlpopimfaaGreat
open Go.RowKit Go.Maps
set_option linter.unusedVariables false
attribute [local go_sem ↓] Go.wp_at_zero Go.wp_at_succ

/-- What the program's EntryAt answers. -/
def findCodeP (es : List En) (p : Bs) : Int := if askP es p = 0 then (if (findE es p).isSome then 0 else 4) else askP es p
def findListP (es : List En) (p : Bs) : List En := if findCodeP es p = 0 then (findE es p).toList else []
theorem findE_step {es : List En} {k : Nat} {e : En} {p : Bs} (he : es[k]? = some e) (h : findE es p = findE (es.drop k) p) (hp : e.path ≠ p) : findE es p = findE (es.drop (k + 1)) p := by
  rw [h, drop_at he, findE, List.find?_cons]
  simp [hp, findE]
theorem findE_hit {es : List En} {k : Nat} {e : En} {p : Bs} (he : es[k]? = some e) (h : findE es p = findE (es.drop k) p) (hp : e.path = p) : findE es p = some e := by
  rw [h, drop_at he, findE, List.find?_cons]
  simp [hp]
theorem findE_end {es : List En} {k : Nat} {p : Bs} (hk : es.length ≤ k) (h : findE es p = findE (es.drop k) p) : findE es p = none := by
  rw [h, List.drop_eq_nil_of_le hk]; rfl

set_option maxRecDepth 100000 in
set_option maxHeartbeats 1600000 in
theorem implEntryAt_any (a : Option Addr) (c n : Nat) (es : List En) (p : Bs) (w : World) (h : RdE w a es) (hn : n = es.length) (hl : es.length ≤ 1048576) (hs : SmallE es) (hp : p.length ≤ 1048576) :
    Calls Tryz.prog 17 #[.slice a n c, .string (str p)] w (ResE (findCodeP es p) (findListP es p) w) := by
  subst hn
  have X0 := hide (Box.new w (.int .i64 0) (.slice none 0 0) 39)
  have B0 := hide (below_alloc w (.cells #[.int .i64 0, .slice none 0 0] 39))
  have HR := hide h
  have HS := hide hs
  clear h hs
  go_enter Tryz.func17, Tryz.ntmps17
  go_wp2_with fail
  refine (implAsk_any a c es.length es p _ (HR.out.below B0.out) rfl hl HS.out hp).mono ?_
  rintro r w1 ⟨rfl, hb1⟩
  have B1 := hide (below_next B0.out hb1)
  have X1 := hide (X0.out.below hb1)
  clear hb1 X0 B0
  by_cases hz : askP es p = 0
  · have HC := hide (show findCodeP es p = if (findE es p).isSome then 0 else 4 from by simp [findCodeP, hz])
    rw [hz]
    clear hz
    have hb0 : w.heap.size < w1.heap.size := X1.out.1.lt
    go_wp2_with fail
    go_loopw [17] (fun i wr => ∃ k : Nat, k ≤ es.length ∧ i = .int .i64 k ∧ Hid (findE es p = findE (es.drop k) p) ∧ Hid (Below w1.heap.size w1 wr)) (fun i _ => es.length - (intOf i).toNat)
    case atStart => exact ⟨0, Nat.zero_le _, rfl, hide (by simp), hide (Below.refl _ _)⟩
    case round =>
      obtain ⟨k, hk, rfl, HF, HW⟩ := hrel
      have HR1 := hide (HR.out.below (below_next B1.out HW.out))
      have hsz := HW.out.size
      by_cases hlt : k < es.length
      · obtain ⟨b, off, e, x, cc, rfl, hb, he, c0, c1, c2, c3, hr⟩ := HR1.out.at hlt
        have hsm := HS.out e (List.mem_of_getElem? he)
        have HX := hide he
        have HRc := hide hr
        clear he hr
        by_cases hq : e.path = p
        · have hs1 := str_yes hq
          have HFE := hide (findE_hit HX.out HF.out hq)
          have HCC := hide (show findCodeP es p = 0 ∧ findListP es p = [e] from by
            have h0 : findCodeP es p = 0 := by rw [HC.out, HFE.out]; rfl
            exact ⟨h0, by rw [findListP, if_pos h0, HFE.out]; rfl⟩)
          clear hq
          have BA := hide (below_alloc wr (.cells #[.string (str e.path), .int .i64 e.kind, .int .i64 e.size, .slice x e.chunks.length cc] 36))
          go_wp2_with fail
          refine (itemOf_any _ _ _ _ _ _ _).mono ?_
          rintro r w3 ⟨rfl, hb3⟩
          have BB3 := hide (below_next BA.out hb3)
          have RI := hide (RdI.fresh (e := e) (c := cc) (t := 85) (HRc.out.below BB3.out))
          have BI := hide (below_alloc w3 (.cells #[.int .i64 e.size, .slice x e.chunks.length cc, .string (str e.path), .int .i64 e.kind] 85))
          have hs3 := BB3.out.size
          clear hb3 c0 c1 c2 c3 BA
          go_wp2_with fail
          generalize w3.alloc (.cells #[.int .i64 e.size, .slice x e.chunks.length cc, .string (str e.path), .int .i64 e.kind] 85) = W4 at *
          refine (entriesOf_any _ _ 1 [e] _ RI.out rfl (by simp) (fun y hy => by simp only [List.mem_singleton] at hy; subst hy; exact hsm)).mono ?_
          rintro r w5 ⟨av5, cv5, rfl, hG5, hb5⟩
          have BB5 := hide (below_next HW.out (below_next (below_next BB3.out BI.out) hb5))
          obtain ⟨⟨t0, t1⟩, t2, t3⟩ := X1.out.below BB5.out
          have G5 := hide hG5
          have hs4 := BI.out.size
          have B5 := hide (below_next B1.out BB5.out)
          clear hG5 hb5
          go_wp2_with fail
          exact bodyPost_ret (v := .agg #[.int .i64 0, .slice av5 1 cv5]) (by simp [results, Tryz.results17, go_sem, t0, t1]) rfl (by rw [HCC.out.1, HCC.out.2]; exact ResE.of (w2 := w1) (by omega) (Nat.le_refl _) rfl G5.out B5.out)
        · have hs1 := str_no hq
          have HF2 := hide (findE_step HX.out HF.out hq)
          clear hq
          go_wp2_with fail
          go_roundw
          case rel => exact ⟨k + 1, by omega, by go_num, HF2, hide (below_next HW.out (below_alloc wr _))⟩
          case measure => simp [intOf]; omega
      · have HFE := hide (findE_end (by omega) HF.out)
        have HCC := hide (show findCodeP es p = 4 ∧ findListP es p = [] from by
          have h0 : findCodeP es p = 4 := by rw [HC.out, HFE.out]; rfl
          exact ⟨h0, by rw [findListP, if_neg (by rw [h0]; decide)]⟩)
        obtain ⟨⟨t0, t1⟩, t2, t3⟩ := X1.out.below HW.out
        go_wp2_with fail
        exact bodyPost_ret (v := .agg #[.int .i64 4, .slice none 0 0]) (by simp [results, Tryz.results17, go_sem, t0, t1]) rfl (by rw [HCC.out.1, HCC.out.2]; exact ResE.bad (Nat.le_refl _) (below_next B1.out HW.out))
  · have HCC := hide (show findCodeP es p = askP es p ∧ findListP es p = [] from by
      have h0 : findCodeP es p = askP es p := by simp [findCodeP, hz]
      exact ⟨h0, by rw [findListP, if_neg (by rw [h0]; exact hz)]⟩)
    generalize askP es p = F at *
    have hz2 : (F != 0) = true := by simp; exact hz
    clear hz
    obtain ⟨⟨t0, t1⟩, t2, t3⟩ := X1.out
    go_wp2_with fail
    exact bodyPost_ret (v := .agg #[.int .i64 F, .slice none 0 0]) (by simp [results, Tryz.results17, go_sem, t0, t1]) rfl (by rw [HCC.out.1, HCC.out.2]; exact ResE.bad (Nat.le_refl _) B1.out)

/-- Is a path the other one, or below it, as the program asks? -/
def atBelow (p t : Bs) : Bool := decide (p = t) || isBelow p t
set_option maxHeartbeats 800000 in
theorem isAtOrBelow_any (p t : Bs) (k z : Int) (a : Option Addr) (n c : Nat) (w : World) (hp : p.length ≤ 1048576) :
    Calls Tryz.prog 152 #[.agg #[.int .i64 z, .slice a n c, .string (str p), .int .i64 k], .string (str t)] w fun r w' => r = .returned (.bool (atBelow p t)) ∧ Below w.heap.size w w' := by
  have HB := hide (below_alloc w (.cells #[.int .i64 z, .slice a n c, .string (str p), .int .i64 k] 85))
  by_cases h : p = t
  · have hs1 := str_yes h
    have HE := hide (show atBelow p t = true from by simp [atBelow, h])
    clear h
    generalize atBelow p t = Z at HE ⊢
    go_enter Tryz.func152, Tryz.ntmps152
    go_wp2_with fail
    go_ret
    exact ⟨ret_bool HE.out.symm, HB.out⟩
  · have hs1 := str_no h
    have HE := hide (show atBelow p t = isBelow p t from by simp [atBelow, h])
    clear h
    generalize atBelow p t = Z at HE ⊢
    go_enter Tryz.func152, Tryz.ntmps152
    go_wp2_with fail
    refine (implIsBelow_any _ _ _ (by rw [str_size]; omega)).mono ?_
    rintro r w1 ⟨rfl, hb1⟩
    rw [str_data, str_data, ← HE.out]
    have HB1 := hide (below_next HB.out hb1)
    clear hb1 HE
    go_wp2_with fail
    cases Z
    · go_ret
      exact ⟨rfl, HB1.out⟩
    · go_ret
      exact ⟨rfl, HB1.out⟩
/-- Does an entry give way to another one that is put? -/
def oustsE (e x : En) : Bool := if dirK e.kind then decide (x.path = e.path) else atBelow x.path e.path

/-- What DropBelow leaves. -/
def restP (es : List En) (p : Bs) : List En := es.filter fun e => !(atBelow e.path p)
def dropListP (es : List En) (p : Bs) : List En := if askP es p = 0 then restP es p else []
theorem restP_in {es : List En} {p : Bs} {k : Nat} {e : En} (he : es[k]? = some e) (h : atBelow e.path p = false) : restP (es.take (k + 1)) p = restP (es.take k) p ++ [e] := by
  rw [take_snoc_at he]; simp [restP, h]
theorem restP_out {es : List En} {p : Bs} {k : Nat} {e : En} (he : es[k]? = some e) (h : atBelow e.path p = true) : restP (es.take (k + 1)) p = restP (es.take k) p := by
  rw [take_snoc_at he]; simp [restP, h]
theorem restP_len (es : List En) (p : Bs) : (restP es p).length ≤ es.length := List.length_filter_le _ _
theorem restP_small {es : List En} (h : SmallE es) (p : Bs) : SmallE (restP es p) := fun e he => h e (List.mem_filter.1 he).1


end Go.Proofs.YtmpojjlpopimfaaGreat
