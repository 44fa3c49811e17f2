/-
  Texts put together: IteE EntQ LayR LayG Digest Parts IntsR Digests.
-/
import Derived.Test.YtebgfaohhhgdpaaGreatKMounts6
import Derived.Test.YtebgfaohhhgdpaaGreatKMounts4
namespace Go.Proofs.YtebgfaohhhgdpaaGreat
open Go.RowKit Go.Maps
set_option linter.unusedVariables false
attribute [local go_sem ↓] Go.wp_at_zero Go.wp_at_succ

def findCodeP (es : List En) (p : Bs) : Int := if askP es p = 0 then (if (findE es p).isSome then 0 else 4) else askP es p
def findListP (es : List En) (p : Bs) : List En := if findCodeP es p = 0 then (findE es p).toList else []
theorem findE_step {es : List En} {k : Nat} {e : En} {p : Bs} (he : es[k]? = some e) (h : findE es p = findE (es.drop k) p) (hp : e.path ≠ p) : findE es p = findE (es.drop (k + 1)) p := by
  rw [h, drop_at he, findE, List.find?_cons]
  simp [hp, findE]
theorem findE_hit {es : List En} {k : Nat} {e : En} {p : Bs} (he : es[k]? = some e) (h : findE es p = findE (es.drop k) p) (hp : e.path = p) : findE es p = some e := by
  rw [h, drop_at he, findE, List.find?_cons]
  simp [hp]
theorem findE_end {es : List En} {k : Nat} {p : Bs} (hk : es.length ≤ k) (h : findE es p = findE (es.drop k) p) : findE es p = none := by
  rw [h, List.drop_eq_nil_of_le hk]; rfl

set_option maxRecDepth 100000 in
set_option maxHeartbeats 1600000 in
theorem implEntryAt_any (a : Option Addr) (c n : Nat) (es : List En) (p : Bs) (w : World) (h : RdE w a es) (hn : n = es.length) (hl : es.length ≤ 1048576) (hs : SmallE es) (hp : p.length ≤ 1048576) :
    Calls Tryz.prog 23 #[.slice a n c, .string (str p)] w (ResE (findCodeP es p) (findListP es p) w) := by
  subst hn
  have X0 := hide (Box.new w (.int .i64 0) (.slice none 0 0) 42)
  have B0 := hide (below_alloc w (.cells #[.int .i64 0, .slice none 0 0] 42))
  have HR := hide h
  have HS := hide hs
  clear h hs
  go_enter Tryz.func23, Tryz.ntmps23
  go_wp2_with fail
  refine (implAsk_any a c es.length es p _ (HR.out.below B0.out) rfl hl HS.out hp).mono ?_
  rintro r w1 ⟨rfl, hb1⟩
  have B1 := hide (below_next B0.out hb1)
  have X1 := hide (X0.out.below hb1)
  clear hb1 X0 B0
  by_cases hz : askP es p = 0
  · have HC := hide (show findCodeP es p = if (findE es p).isSome then 0 else 4 from by simp [findCodeP, hz])
    rw [hz]
    clear hz
    have hb0 : w.heap.size < w1.heap.size := X1.out.1.lt
    go_wp2_with fail
    go_loopw [17] (fun i wr => ∃ k : Nat, k ≤ es.length ∧ i = .int .i64 k ∧ Hid (findE es p = findE (es.drop k) p) ∧ Hid (Below w1.heap.size w1 wr)) (fun i _ => es.length - (intOf i).toNat)
    case atStart => exact ⟨0, Nat.zero_le _, rfl, hide (by simp), hide (Below.refl _ _)⟩
    case round =>
      obtain ⟨k, hk, rfl, HF, HW⟩ := hrel
      have HR1 := hide (HR.out.below (below_next B1.out HW.out))
      have hsz := HW.out.size
      by_cases hlt : k < es.length
      · obtain ⟨b, off, e, x, cc, rfl, hb, he, c0, c1, c2, c3, hr⟩ := HR1.out.at hlt
        have hsm := HS.out e (List.mem_of_getElem? he)
        have HX := hide he
        have HRc := hide hr
        clear he hr
        by_cases hq : e.path = p
        · have hs1 := str_yes hq
          have HFE := hide (findE_hit HX.out HF.out hq)
          have HCC := hide (show findCodeP es p = 0 ∧ findListP es p = [e] from by
            have h0 : findCodeP es p = 0 := by rw [HC.out, HFE.out]; rfl
            exact ⟨h0, by rw [findListP, if_pos h0, HFE.out]; rfl⟩)
          clear hq
          have BA := hide (below_alloc wr (.cells #[.string (str e.path), .int .i64 e.kind, .int .i64 e.size, .slice x e.chunks.length cc] 53))
          go_wp2_with fail
          refine (itemOf_any _ _ _ _ _ _ _).mono ?_
          rintro r w3 ⟨rfl, hb3⟩
          have BB3 := hide (below_next BA.out hb3)
          have RI := hide (RdI.fresh (e := e) (c := cc) (t := 66) (HRc.out.below BB3.out))
          have BI := hide (below_alloc w3 (.cells #[.int .i64 e.size, .slice x e.chunks.length cc, .string (str e.path), .int .i64 e.kind] 66))
          have hs3 := BB3.out.size
          clear hb3 c0 c1 c2 c3 BA
          go_wp2_with fail
          generalize w3.alloc (.cells #[.int .i64 e.size, .slice x e.chunks.length cc, .string (str e.path), .int .i64 e.kind] 66) = W4 at *
          refine (entriesOf_any _ _ 1 [e] _ RI.out rfl (by simp) (fun y hy => by simp only [List.mem_singleton] at hy; subst hy; exact hsm)).mono ?_
          rintro r w5 ⟨av5, cv5, rfl, hG5, hb5⟩
          have BB5 := hide (below_next HW.out (below_next (below_next BB3.out BI.out) hb5))
          obtain ⟨⟨t0, t1⟩, t2, t3⟩ := X1.out.below BB5.out
          have G5 := hide hG5
          have hs4 := BI.out.size
          have B5 := hide (below_next B1.out BB5.out)
          clear hG5 hb5
          go_wp2_with fail
          exact bodyPost_ret (v := .agg #[.int .i64 0, .slice av5 1 cv5]) (by simp [results, Tryz.results23, go_sem, t0, t1]) rfl (by rw [HCC.out.1, HCC.out.2]; exact ResE.of (w2 := w1) (by omega) (Nat.le_refl _) rfl G5.out B5.out)
        · have hs1 := str_no hq
          have HF2 := hide (findE_step HX.out HF.out hq)
          clear hq
          go_wp2_with fail
          go_roundw
          case rel => exact ⟨k + 1, by omega, by go_num, HF2, hide (below_next HW.out (below_alloc wr _))⟩
          case measure => simp [intOf]; omega
      · have HFE := hide (findE_end (by omega) HF.out)
        have HCC := hide (show findCodeP es p = 4 ∧ findListP es p = [] from by
          have h0 : findCodeP es p = 4 := by rw [HC.out, HFE.out]; rfl
          exact ⟨h0, by rw [findListP, if_neg (by rw [h0]; decide)]⟩)
        obtain ⟨⟨t0, t1⟩, t2, t3⟩ := X1.out.below HW.out
        go_wp2_with fail
        exact bodyPost_ret (v := .agg #[.int .i64 4, .slice none 0 0]) (by simp [results, Tryz.results23, go_sem, t0, t1]) rfl (by rw [HCC.out.1, HCC.out.2]; exact ResE.bad (Nat.le_refl _) (below_next B1.out HW.out))
  · have HCC := hide (show findCodeP es p = askP es p ∧ findListP es p = [] from by
      have h0 : findCodeP es p = askP es p := by simp [findCodeP, hz]
      exact ⟨h0, by rw [findListP, if_neg (by rw [h0]; exact hz)]⟩)
    generalize askP es p = F at *
    have hz2 : (F != 0) = true := by simp; exact hz
    clear hz
    obtain ⟨⟨t0, t1⟩, t2, t3⟩ := X1.out
    go_wp2_with fail
    exact bodyPost_ret (v := .agg #[.int .i64 F, .slice none 0 0]) (by simp [results, Tryz.results23, go_sem, t0, t1]) rfl (by rw [HCC.out.1, HCC.out.2]; exact ResE.bad (Nat.le_refl _) B1.out)

def atBelow (p t : Bs) : Bool := decide (p = t) || isBelow p t
set_option maxHeartbeats 800000 in
theorem isAtOrBelow_any (p t : Bs) (k z : Int) (a : Option Addr) (n c : Nat) (w : World) (hp : p.length ≤ 1048576) :
    Calls Tryz.prog 83 #[.agg #[.int .i64 z, .slice a n c, .string (str p), .int .i64 k], .string (str t)] w fun r w' => r = .returned (.bool (atBelow p t)) ∧ Below w.heap.size w w' := by
  have HB := hide (below_alloc w (.cells #[.int .i64 z, .slice a n c, .string (str p), .int .i64 k] 66))
  by_cases h : p = t
  · have hs1 := str_yes h
    have HE := hide (show atBelow p t = true from by simp [atBelow, h])
    clear h
    generalize atBelow p t = Z at HE ⊢
    go_enter Tryz.func83, Tryz.ntmps83
    go_wp2_with fail
    go_ret
    exact ⟨ret_bool HE.out.symm, HB.out⟩
  · have hs1 := str_no h
    have HE := hide (show atBelow p t = isBelow p t from by simp [atBelow, h])
    clear h
    generalize atBelow p t = Z at HE ⊢
    go_enter Tryz.func83, Tryz.ntmps83
    go_wp2_with fail
    refine (implIsBelow_any _ _ _ (by rw [str_size]; omega)).mono ?_
    rintro r w1 ⟨rfl, hb1⟩
    rw [str_data, str_data, ← HE.out]
    have HB1 := hide (below_next HB.out hb1)
    clear hb1 HE
    go_wp2_with fail
    cases Z
    · go_ret
      exact ⟨rfl, HB1.out⟩
    · go_ret
      exact ⟨rfl, HB1.out⟩
def oustsE (e x : En) : Bool := if dirK e.kind then decide (x.path = e.path) else atBelow x.path e.path
set_option maxHeartbeats 800000 in
theorem ousts_any (e x : En) (a b : Option Addr) (n m c d : Nat) (w : World) (hx : x.path.length ≤ 1048576) :
    Calls Tryz.prog 170 #[.agg #[.int .i64 e.size, .slice a n c, .string (str e.path), .int .i64 e.kind], .agg #[.int .i64 x.size, .slice b m d, .string (str x.path), .int .i64 x.kind]] w fun r w' => r = .returned (.bool (oustsE e x)) ∧ Below w.heap.size w w' := by
  have HB := hide (below_next (below_alloc w (.cells #[.int .i64 e.size, .slice a n c, .string (str e.path), .int .i64 e.kind] 66)) (below_alloc _ (.cells #[.int .i64 x.size, .slice b m d, .string (str x.path), .int .i64 x.kind] 66)))
  have F1 := hide ((Four.new w (.int .i64 e.size) (.slice a n c) (.string (str e.path)) (.int .i64 e.kind) 66).below (below_alloc _ (.cells #[.int .i64 x.size, .slice b m d, .string (str x.path), .int .i64 x.kind] 66)))
  have F2 := hide (Four.new (w.alloc (.cells #[.int .i64 e.size, .slice a n c, .string (str e.path), .int .i64 e.kind] 66)) (.int .i64 x.size) (.slice b m d) (.string (str x.path)) (.int .i64 x.kind) 66)
  have h1 : (w.alloc (.cells #[.int .i64 e.size, .slice a n c, .string (str e.path), .int .i64 e.kind] 66)).heap.size = w.heap.size + 1 := by simp
  rw [h1] at F2
  clear h1
  cases hd : dirK e.kind
  · have HE := hide (show oustsE e x = atBelow x.path e.path from by simp [oustsE, hd])
    have HD := hide hd
    clear hd
    generalize oustsE e x = Z at HE ⊢
    go_enter Tryz.func170, Tryz.ntmps170
    go_wp2_with fail
    refine (isDir_any _ _ _ _ _ _ _).mono ?_
    rintro r w1 ⟨rfl, hb1⟩
    rw [HD.out]
    obtain ⟨p0, p1, p2, p3⟩ := F1.out.below hb1
    obtain ⟨q0, q1, q2, q3⟩ := F2.out.below hb1
    have HB1 := hide (below_next HB.out hb1)
    clear hb1
    go_wp2_with fail
    refine (isAtOrBelow_any _ _ _ _ _ _ _ _ hx).mono ?_
    rintro r w2 ⟨rfl, hb2⟩
    have HB2 := hide (below_next HB1.out hb2)
    clear hb2
    go_wp2_with fail
    go_ret
    exact ⟨ret_bool HE.out.symm, HB2.out⟩
  · have HD := hide hd
    by_cases h : x.path = e.path
    · have hs1 := str_yes h
      have HE := hide (show oustsE e x = true from by simp [oustsE, hd, h])
      clear h hd
      generalize oustsE e x = Z at HE ⊢
      go_enter Tryz.func170, Tryz.ntmps170
      go_wp2_with fail
      refine (isDir_any _ _ _ _ _ _ _).mono ?_
      rintro r w1 ⟨rfl, hb1⟩
      rw [HD.out]
      obtain ⟨p0, p1, p2, p3⟩ := F1.out.below hb1
      obtain ⟨q0, q1, q2, q3⟩ := F2.out.below hb1
      have HB1 := hide (below_next HB.out hb1)
      clear hb1
      go_wp2_with fail
      go_ret
      exact ⟨ret_bool HE.out.symm, HB1.out⟩
    · have hs1 := str_no h
      have HE := hide (show oustsE e x = false from by simp [oustsE, hd, h])
      clear h hd
      generalize oustsE e x = Z at HE ⊢
      go_enter Tryz.func170, Tryz.ntmps170
      go_wp2_with fail
      refine (isDir_any _ _ _ _ _ _ _).mono ?_
      rintro r w1 ⟨rfl, hb1⟩
      rw [HD.out]
      obtain ⟨p0, p1, p2, p3⟩ := F1.out.below hb1
      obtain ⟨q0, q1, q2, q3⟩ := F2.out.below hb1
      have HB1 := hide (below_next HB.out hb1)
      clear hb1
      go_wp2_with fail
      go_ret
      exact ⟨ret_bool HE.out.symm, HB1.out⟩

def restP (es : List En) (p : Bs) : List En := es.filter fun e => !(atBelow e.path p)
def dropListP (es : List En) (p : Bs) : List En := if askP es p = 0 then restP es p else []
theorem restP_in {es : List En} {p : Bs} {k : Nat} {e : En} (he : es[k]? = some e) (h : atBelow e.path p = false) : restP (es.take (k + 1)) p = restP (es.take k) p ++ [e] := by
  rw [take_snoc_at he]; simp [restP, h]
theorem restP_out {es : List En} {p : Bs} {k : Nat} {e : En} (he : es[k]? = some e) (h : atBelow e.path p = true) : restP (es.take (k + 1)) p = restP (es.take k) p := by
  rw [take_snoc_at he]; simp [restP, h]
theorem restP_len (es : List En) (p : Bs) : (restP es p).length ≤ es.length := List.length_filter_le _ _
theorem restP_small {es : List En} (h : SmallE es) (p : Bs) : SmallE (restP es p) := fun e he => h e (List.mem_filter.1 he).1

set_option maxRecDepth 100000 in
set_option maxHeartbeats 3200000 in
theorem implDropBelow_any (a : Option Addr) (c n : Nat) (es : List En) (p : Bs) (w : World) (h : RdE w a es) (hn : n = es.length) (hl : es.length ≤ 1048576) (hs : SmallE es) (hp : p.length ≤ 1048576) :
    Calls Tryz.prog 36 #[.slice a n c, .string (str p)] w (ResE (askP es p) (dropListP es p) w) := by
  subst hn
  obtain ⟨i1, ki, kz0, kz1, kz2⟩ := info_parts Tryz.infoIt
  have X0 := hide (Box.new w (.int .i64 0) (.slice none 0 0) 42)
  have B0 := hide (below_alloc w (.cells #[.int .i64 0, .slice none 0 0] 42))
  have HR := hide h
  have HS := hide hs
  clear h hs
  go_enter Tryz.func36, Tryz.ntmps36
  go_wp2_with fail
  refine (implAsk_any a c es.length es p _ (HR.out.below B0.out) rfl hl HS.out hp).mono ?_
  rintro r w1 ⟨rfl, hb1⟩
  have B1 := hide (below_next B0.out hb1)
  have X1 := hide (X0.out.below hb1)
  clear hb1 X0 B0
  by_cases hz : askP es p = 0
  · have HCC := hide (show askP es p = 0 ∧ dropListP es p = restP es p from ⟨hz, by rw [dropListP, if_pos hz]⟩)
    rw [hz]
    clear hz
    have hb0 : w.heap.size < w1.heap.size := X1.out.1.lt
    have HR1 := hide (HR.out.below B1.out)
    go_wp2_with fail
    go_loopw [6, 19] (fun v i wr => ∃ k : Nat, k ≤ es.length ∧ i = .int .i64 k ∧ Hid (LI w1 wr v (restP (es.take k) p)) ∧ Hid (Below w1.heap.size w1 wr)) (fun _ i _ => es.length - (intOf i).toNat)
    case atStart => exact ⟨0, Nat.zero_le _, rfl, hide (LI.nil _ _), hide (Below.refl _ _)⟩
    case round =>
      obtain ⟨k, hk, rfl, HL, HW⟩ := hrel
      have hsz := HW.out.size
      obtain ⟨lv, lc, hv⟩ := HL.out.shape
      subst hv
      have hrl := restP_len (es.take k) p
      rw [List.length_take] at hrl
      by_cases hlt : k < es.length
      · obtain ⟨b, off, e, x, cc, rfl, hb, he, c0, c1, c2, c3, hr⟩ := (HR1.out.below HW.out).at hlt
        obtain ⟨b', off', e', x', cc', hbb, hb', he', d0, d1, d2, d3, hr'⟩ := HR1.out.at hlt
        simp only [Option.some.injEq, Addr.mk.injEq, and_true] at hbb
        obtain ⟨rfl, rfl⟩ := hbb
        have : e' = e := Option.some.inj (he'.symm.trans he)
        subst this
        have d3' := (HW.out.cell (p := ⟨b, off + k * 4 + 3, none⟩) hb').trans d3
        rw [c3] at d3'
        simp only [Option.some.injEq, Value.slice.injEq, true_and] at d3'
        obtain ⟨rfl, rfl⟩ := d3'
        have hsm := HS.out e' (List.mem_of_getElem? he)
        have HX := hide he
        have HRc := hide hr'
        clear he hr hr' he' d0 d1 d2 d3
        have BA := hide (below_alloc wr (.cells #[.string (str e'.path), .int .i64 e'.kind, .int .i64 e'.size, .slice x e'.chunks.length cc] 53))
        go_wp2_with fail
        refine (itemOf_any _ _ _ _ _ _ _).mono ?_
        rintro r w3 ⟨rfl, hb3⟩
        have F4 := hide (Four.new w3 (.int .i64 e'.size) (.slice x e'.chunks.length cc) (.string (str e'.path)) (.int .i64 e'.kind) 66)
        have BB4 := hide (below_next (below_next BA.out hb3) (below_alloc w3 (.cells #[.int .i64 e'.size, .slice x e'.chunks.length cc, .string (str e'.path), .int .i64 e'.kind] 66)))
        clear hb3 c0 c1 c2 c3 BA
        go_wp2_with fail
        generalize w3.alloc (.cells #[.int .i64 e'.size, .slice x e'.chunks.length cc, .string (str e'.path), .int .i64 e'.kind] 66) = W4 at *
        generalize w3.heap.size = b4 at *
        refine (isAtOrBelow_any _ _ _ _ _ _ _ _ hsm.1).mono ?_
        rintro r w5 ⟨rfl, hb5⟩
        have BB5 := hide (below_next BB4.out hb5)
        obtain ⟨f0, f1, f2, f3⟩ := F4.out.below hb5
        clear hb5 F4 BB4
        cases hq : atBelow e'.path p
        · have HN := hide (restP_in HX.out hq)
          clear hq
          obtain ⟨rs, g1, g2, g3⟩ := HL.out
          have G1 := hide g1
          have G2 := hide (ownsRow_below g2 BB5.out)
          have G3 := hide g3
          clear g1 g2 g3
          obtain ⟨L, hL⟩ : ∃ L, L = (restP (es.take k) p).length := ⟨_, rfl⟩
          rw [← hL] at hrl G2 ⊢
          have HLn := hide hL
          clear hL
          have hm1 : L + 1 ≤ maxLen := by unfold maxLen; omega
          have hm1' : (L + 1) * 56 ≤ 140737488355328 := by omega
          have hsz5 := BB5.out.size
          go_wp2_with (at_builtin; refine wpList_append_put rfl (.tmp 29) (.tmp 31) 57 rfl w1.heap.size 66 i1 (.agg #[.int .i64 0, .slice none 0 0, .string ⟨#[]⟩, .int .i64 0]) 4 56 Tryz.underlying57 ki kz0 kz1 kz2 rfl (by decide) _ _ _ rfl G2.out _ rfl rfl rfl (by intro u hu; simp at hu; rcases hu with rfl | rfl | rfl | rfl <;> rfl) hm1 hm1' (by omega) ?_; intro av6 cv6 w6 hown6 hk6; have O6 := hide hown6; have K6 := hide hk6; clear hown6 hk6)
          go_roundw
          case rel =>
            refine ⟨k + 1, by omega, by go_num, hide ?_, hide ?_⟩
            · rw [HN.out]
              exact LI.push (e := e') (a := x) (c := cc) G1.out HLn.out G3.out HRc.out O6.out
            · exact (below_next HW.out BB5.out).trans (K6.out.below (by omega) (fun q hq hS => by have := (G2.out.lt q hS).1; omega))
          case measure => simp [intOf]; omega
        · have HN := hide (restP_out HX.out hq)
          clear hq
          go_wp2_with fail
          go_roundw
          case rel => exact ⟨k + 1, by omega, by go_num, hide (by rw [HN.out]; exact HL.out.below BB5.out), hide (below_next HW.out BB5.out)⟩
          case measure => simp [intOf]; omega
      · have HE := hide (show es.take k = es from List.take_of_length_le (by omega))
        rw [HE.out] at HL ⊢
        have RI := hide (HL.out.rd HW.out)
        have HSr := hide (restP_small HS.out p)
        have hrl2 := restP_len es p
        clear HE
        go_wp2_with fail
        refine (entriesOf_any _ _ _ (restP es p) _ RI.out rfl (by omega) HSr.out).mono ?_
        rintro r w5 ⟨av5, cv5, rfl, hG5, hb5⟩
        have BB5 := hide (below_next HW.out hb5)
        obtain ⟨⟨t0, t1⟩, t2, t3⟩ := X1.out.below BB5.out
        have G5 := hide hG5
        have B5 := hide (below_next B1.out BB5.out)
        clear hG5 hb5
        go_wp2_with fail
        exact bodyPost_ret (v := .agg #[.int .i64 0, .slice av5 (restP es p).length cv5]) (by simp [results, Tryz.results36, go_sem, t0, t1]) rfl (by rw [HCC.out.1, HCC.out.2]; exact ResE.of (w2 := w1) (by omega) (Nat.le_refl _) rfl G5.out B5.out)
  · have HCC := hide (show dropListP es p = [] from by rw [dropListP, if_neg hz])
    generalize askP es p = F at *
    have hz2 : (F != 0) = true := by simp; exact hz
    clear hz
    obtain ⟨⟨t0, t1⟩, t2, t3⟩ := X1.out
    go_wp2_with fail
    exact bodyPost_ret (v := .agg #[.int .i64 F, .slice none 0 0]) (by simp [results, Tryz.results36, go_sem, t0, t1]) rfl (by rw [HCC.out]; exact ResE.bad (Nat.le_refl _) B1.out)

end Go.Proofs.YtebgfaohhhgdpaaGreat

namespace Go.Proofs.YtebgfaohhhgdpaaGreat
open Go.RowKit Go.Maps
set_option linter.unusedVariables false

def putCode (es : List En) (e : En) : Int :=
  if layFault es = 0 then (if entFault e = 0 then (if homeE es e.path then (if 12 < (putE es e).length then 2 else 0) else 9) else entFault e) else layFault es
def putList (es : List En) (e : En) : List En := if putCode es e = 0 then putE es e else []

set_option maxRecDepth 100000 in
set_option maxHeartbeats 3200000 in
theorem specPutEntry_any (a : Option Addr) (c n : Nat) (es : List En) (e : En) (x : Option Addr) (m cc : Nat) (w : World) (h : RdE w a es) (hn : n = es.length) (hl : es.length < 1048576) (hs : SmallE es) (hm : m = e.chunks.length) (hr : Reads .i64 w x e.chunks) (hp : e.path.length ≤ 1048576) (hcl : e.chunks.length ≤ 1048576) :
    Calls Tryz.prog 116 #[.slice a n c, .agg #[.string (str e.path), .int .i64 e.kind, .int .i64 e.size, .slice x m cc]] w (ResE (putCode es e) (putList es e) w) := by
  subst hn
  subst hm
  have HF := hide (fun u hb => l4Fault_any a c es.length es u (h.below hb) rfl (by omega) hs)
  have HEf := hide (fun u (hb : Below w.heap.size w u) => specEntryFault_any e x cc e.chunks.length u (hr.below hb) rfl hp hcl)
  have HHo := hide (fun u hb h1 => l4Home_any a c es.length es e.path u (h.below hb) rfl (by omega) h1 hp)
  have HPu := hide (fun u hb => l4Put_any a c es.length es e x e.chunks.length cc u (h.below hb) rfl hl hs rfl (hr.below hb) hp hcl)
  clear h hs hr
  go_enter Tryz.func116, Tryz.ntmps116
  go_wp2_with fail
  have B0 := hide (below_next (below_alloc w (.cells #[.string (str e.path), .int .i64 e.kind, .int .i64 e.size, .slice x e.chunks.length cc] 53)) (below_alloc _ (.cells #[.int .i64 0, .slice none 0 0] 42)))
  have F0 := hide ((Four.new w (.string (str e.path)) (.int .i64 e.kind) (.int .i64 e.size) (.slice x e.chunks.length cc) 53).below (below_alloc _ (.cells #[.int .i64 0, .slice none 0 0] 42)))
  have X0 := hide (Box.new (w.alloc (.cells #[.string (str e.path), .int .i64 e.kind, .int .i64 e.size, .slice x e.chunks.length cc] 53)) (.int .i64 0) (.slice none 0 0) 42)
  have hsz0 : (w.alloc (.cells #[.string (str e.path), .int .i64 e.kind, .int .i64 e.size, .slice x e.chunks.length cc] 53)).heap.size = w.heap.size + 1 := by simp
  rw [hsz0] at X0
  clear hsz0
  generalize (w.alloc (.cells #[.string (str e.path), .int .i64 e.kind, .int .i64 e.size, .slice x e.chunks.length cc] 53)).alloc (.cells #[.int .i64 0, .slice none 0 0] 42) = w0 at *
  have hrb : w.heap.size ≤ w.heap.size + 1 := Nat.le_succ _
  generalize hbk : w.heap.size + 1 = rb at *
  have HRB := hide hrb
  clear hrb hbk
  refine (HF.out _ B0.out).mono ?_
  rintro r w1 ⟨rfl, hb1⟩
  have B1 := hide (below_next B0.out hb1)
  have F1 := hide (F0.out.below hb1)
  have X1 := hide (X0.out.below hb1)
  clear hb1 B0 F0 X0 HF
  by_cases hz : layFault es = 0
  · rw [hz]
    obtain ⟨f0, f1, f2, f3⟩ := F1.out
    go_wp2_with fail
    refine (HEf.out _ B1.out).mono ?_
    rintro r w2 ⟨rfl, hb2⟩
    have B2 := hide (below_next B1.out hb2)
    have X2 := hide (X1.out.below hb2)
    have F2 := hide (F1.out.below hb2)
    clear hb2 f0 f1 f2 f3 F1 X1 B1 HEf
    by_cases he : entFault e = 0
    · rw [he]
      have hpos := path_pos (entFault_zero he)
      obtain ⟨f0, f1, f2, f3⟩ := F2.out
      go_wp2_with fail
      refine (HHo.out _ B2.out hpos).mono ?_
      rintro r w3 ⟨rfl, hb3⟩
      have B3 := hide (below_next B2.out hb3)
      have X3 := hide (X2.out.below hb3)
      have F3 := hide (F2.out.below hb3)
      clear hb3 f0 f1 f2 f3 F2 X2 B2 HHo
      cases hh : homeE es e.path
      · have HC := hide (show putCode es e = 9 ∧ putList es e = [] from by
          have : putCode es e = 9 := by simp [putCode, hz, he, hh]
          exact ⟨this, by simp [putList, this]⟩)
        clear hh hz he
        obtain ⟨⟨t0, t1⟩, t2, t3⟩ := X3.out
        go_wp2_with fail
        exact bodyPost_ret (v := .agg #[.int .i64 9, .slice none 0 0]) (by simp [results, Tryz.results116, go_sem, t0, t1]) rfl (by rw [HC.out.1, HC.out.2]; exact ResE.bad HRB.out B3.out)
      · have HC0 := hide (show putCode es e = (if 12 < (putE es e).length then 2 else 0) from by simp [putCode, hz, he, hh])
        clear hh hz he
        obtain ⟨f0, f1, f2, f3⟩ := F3.out
        go_wp2_with fail
        refine (HPu.out _ B3.out).mono ?_
        rintro r w4 ⟨g, cv, rfl, hG, hb4⟩
        have hlt0 := X3.out.1.lt
        have B4 := hide (below_next B3.out hb4)
        obtain ⟨⟨t0, t1⟩, t2, t3⟩ := X3.out.below hb4
        have GG := hide hG
        clear hG hb4 f0 f1 f2 f3 F3 X3 HPu
        by_cases hq : 12 < (putE es e).length
        · have HC := hide (show putCode es e = 2 ∧ putList es e = [] from by
            have : putCode es e = 2 := by rw [HC0.out, if_pos hq]
            exact ⟨this, by simp [putList, this]⟩)
          have hq2 : (12 : Int) < ((putE es e).length : Int) := by omega
          go_wp2_with fail
          exact bodyPost_ret (v := .agg #[.int .i64 2, .slice none 0 0]) (by simp [results, Tryz.results116, go_sem, t0, t1]) rfl (by rw [HC.out.1, HC.out.2]; exact ResE.bad HRB.out B4.out)
        · have HC := hide (show putCode es e = 0 ∧ putList es e = putE es e from by
            have : putCode es e = 0 := by rw [HC0.out, if_neg hq]
            exact ⟨this, by simp [putList, this]⟩)
          have hq2 : ¬ (12 : Int) < ((putE es e).length : Int) := by omega
          go_wp2_with fail
          exact bodyPost_ret (v := .agg #[.int .i64 0, .slice (some ⟨g, 0, none⟩) (putE es e).length cv]) (by simp [results, Tryz.results116, go_sem, t0, t1]) rfl (by rw [HC.out.1, HC.out.2]; exact ResE.of (w2 := w3) hlt0 HRB.out rfl GG.out B4.out)
    · have HC := hide (show putCode es e = entFault e ∧ putList es e = [] from by
        have : putCode es e = entFault e := by simp [putCode, hz, he]
        exact ⟨this, by simp [putList, this, he]⟩)
      generalize entFault e = F at *
      have hz2 : (F != 0) = true := by simp; exact he
      clear he hz
      obtain ⟨⟨t0, t1⟩, t2, t3⟩ := X2.out
      go_wp2_with fail
      exact bodyPost_ret (v := .agg #[.int .i64 F, .slice none 0 0]) (by simp [results, Tryz.results116, go_sem, t0, t1]) rfl (by rw [HC.out.1, HC.out.2]; exact ResE.bad HRB.out B2.out)
  · have HC := hide (show putCode es e = layFault es ∧ putList es e = [] from by
      have : putCode es e = layFault es := by simp [putCode, hz]
      exact ⟨this, by simp [putList, this, hz]⟩)
    generalize layFault es = F at *
    have hz2 : (F != 0) = true := by simp; exact hz
    clear hz
    obtain ⟨⟨t0, t1⟩, t2, t3⟩ := X1.out
    go_wp2_with fail
    exact bodyPost_ret (v := .agg #[.int .i64 F, .slice none 0 0]) (by simp [results, Tryz.results116, go_sem, t0, t1]) rfl (by rw [HC.out.1, HC.out.2]; exact ResE.bad HRB.out B1.out)

end Go.Proofs.YtebgfaohhhgdpaaGreat

namespace Go.Proofs.YtebgfaohhhgdpaaGreat
set_option linter.unusedVariables false

theorem bl_irrefl : ∀ a : Bs, Op.bytesLess a a = false
  | [] => rfl
  | c :: a => by simp [Op.bytesLess, bl_irrefl a]
theorem bl_trans : ∀ a b c : Bs, Op.bytesLess a b = true → Op.bytesLess b c = true → Op.bytesLess a c = true
  | a, [], c, h, _ => by cases a <;> simp [Op.bytesLess] at h
  | [], b :: bs, [], _, h2 => by simp [Op.bytesLess] at h2
  | [], b :: bs, c :: cs, _, _ => by simp [Op.bytesLess]
  | a :: xs, b :: ys, [], _, h2 => by simp [Op.bytesLess] at h2
  | a :: xs, b :: ys, c :: zs, h1, h2 => by
    simp only [Op.bytesLess, Bool.or_eq_true, decide_eq_true_eq, Bool.and_eq_true, beq_iff_eq] at h1 h2 ⊢
    rcases h1 with h1 | ⟨rfl, h1⟩
    · rcases h2 with h2 | ⟨rfl, h2⟩
      · exact .inl (UInt8.lt_trans h1 h2)
      · exact .inl h1
    · rcases h2 with h2 | ⟨rfl, h2⟩
      · exact .inl h2
      · exact .inr ⟨rfl, bl_trans xs ys zs h1 h2⟩
theorem bl_total : ∀ a b : Bs, Op.bytesLess a b = false → a ≠ b → Op.bytesLess b a = true
  | [], [], _, h => absurd rfl h
  | [], b :: bs, h, _ => by simp [Op.bytesLess] at h
  | a :: xs, [], _, _ => by simp [Op.bytesLess]
  | a :: xs, b :: ys, h, hn => by
    simp only [Op.bytesLess, Bool.or_eq_false_iff, decide_eq_false_iff_not, Bool.and_eq_false_iff, beq_eq_false_iff_ne] at h
    simp only [Op.bytesLess, Bool.or_eq_true, decide_eq_true_eq, Bool.and_eq_true, beq_iff_eq]
    by_cases e : a = b
    · subst e
      refine .inr ⟨rfl, bl_total xs ys ?_ (fun x => hn (by rw [x]))⟩
      rcases h.2 with h2 | h2
      · exact absurd rfl h2
      · exact h2
    · refine .inl ?_
      have h1 := h.1
      rw [UInt8.lt_iff_toNat_lt] at h1 ⊢
      have : a.toNat ≠ b.toNat := fun x => e (UInt8.toNat_inj.1 x)
      omega
theorem bl_asymm {a b : Bs} (h : Op.bytesLess a b = true) : Op.bytesLess b a = false := by
  cases h2 : Op.bytesLess b a
  · rfl
  · have := bl_trans a b a h h2
    rw [bl_irrefl] at this
    cases this
theorem bl_ne {a b : Bs} (h : Op.bytesLess a b = true) : a ≠ b := fun e => by rw [e, bl_irrefl] at h; cases h

def Rise (es : List En) : Prop := es.Pairwise fun x y => Op.bytesLess x.path y.path = true
theorem lowE_some {q e : En} (h : lowE (some q) e = false) : Op.bytesLess q.path e.path = true := by
  simp only [lowE, Bool.or_eq_false_iff, beq_eq_false_iff_ne] at h
  exact bl_total _ _ h.1 h.2
theorem lowE_of {q e : En} (h : Op.bytesLess q.path e.path = true) : lowE (some q) e = false := by
  simp only [lowE, Bool.or_eq_false_iff, beq_eq_false_iff_ne]
  exact ⟨bl_asymm h, fun x => bl_ne h x.symm⟩
theorem layFromH_zero {H : Bs → Bool} : ∀ {l : List En} {prev : Option En}, layFromH H prev l = 0 ↔ (∀ e ∈ l, entFault e = 0 ∧ H e.path = true) ∧ Rise l ∧ ∀ q, prev = some q → ∀ e ∈ l, Op.bytesLess q.path e.path = true
  | [], prev => by simp [layFromH, Rise]
  | x :: r, prev => by
    have ih := layFromH_zero (H := H) (l := r) (prev := some x)
    have hx : entBadH H prev x = 0 ↔ entFault x = 0 ∧ lowE prev x = false ∧ H x.path = true := by
      unfold entBadH
      by_cases h1 : entFault x = 0
      · simp only [h1, if_true, true_and]
        cases h2 : lowE prev x
        · cases h3 : H x.path <;> simp
        · simp
      · simp [h1]
    simp only [layFromH]
    by_cases hb : entBadH H prev x = 0
    · rw [if_pos hb, ih]
      obtain ⟨h1, h2, h3⟩ := hx.1 hb
      constructor
      · rintro ⟨a1, a2, a3⟩
        refine ⟨fun e he => ?_, List.pairwise_cons.2 ⟨fun e he => a3 x rfl e he, a2⟩, fun q hq e he => ?_⟩
        · rcases List.mem_cons.1 he with rfl | he
          · exact ⟨h1, h3⟩
          · exact a1 e he
        · subst hq
          have := lowE_some h2
          rcases List.mem_cons.1 he with rfl | he
          · exact this
          · exact bl_trans _ _ _ this (a3 x rfl e he)
      · rintro ⟨a1, a2, a3⟩
        refine ⟨fun e he => a1 e (List.mem_cons_of_mem _ he), (List.pairwise_cons.1 a2).2, fun q hq e he => ?_⟩
        cases hq
        exact (List.pairwise_cons.1 a2).1 e he
    · rw [if_neg hb]
      constructor
      · intro h; exact absurd h hb
      · rintro ⟨a1, a2, a3⟩
        exfalso
        refine hb (hx.2 ⟨(a1 x List.mem_cons_self).1, ?_, (a1 x List.mem_cons_self).2⟩)
        cases prev with
        | none => rfl
        | some q => exact lowE_of (a3 q rfl x List.mem_cons_self)
theorem rise_find {es : List En} (h : Rise es) {e : En} (he : e ∈ es) : findE es e.path = some e := by
  induction es with
  | nil => simp at he
  | cons x r ih =>
    have hp := List.pairwise_cons.1 h
    rcases List.mem_cons.1 he with rfl | he
    · simp [findE]
    · have := hp.1 e he
      rw [findE, List.find?_cons]
      have hn : x.path ≠ e.path := bl_ne this
      simp only [hn, decide_false]
      exact ih hp.2 he
theorem find_mem {es : List En} {p : Bs} {e : En} (h : findE es p = some e) : e ∈ es ∧ e.path = p := by
  refine ⟨List.mem_of_find?_eq_some h, ?_⟩
  have := List.find?_some h
  simpa using this
theorem find_none {es : List En} {p : Bs} (h : ∀ e ∈ es, e.path ≠ p) : findE es p = none := by
  rw [findE, List.find?_eq_none]
  intro e he
  simpa using h e he
theorem homeP_iff {es : List En} {p : Bs} : homeP es p = true ↔ parentP p = [] ∨ ∃ d ∈ es, d.path = parentP p ∧ dirK d.kind = true := by
  unfold homeP hasDir
  by_cases h : parentP p = []
  · simp [h]
  · simp [h]
theorem homeP_eq {es : List En} (h : Rise es) (p : Bs) : homeP es p = homeE es p := by
  unfold homeP homeE
  by_cases h0 : parentP p = []
  · simp [h0]
  · rw [if_neg h0, if_neg h0]
    cases hf : findE es (parentP p) with
    | none =>
      rw [hasDir, List.any_eq_false]
      intro x hx
      have := List.find?_eq_none.1 hf x hx
      simp only [decide_eq_true_eq] at this
      simp [this]
    | some d =>
      obtain ⟨hd, hdp⟩ := find_mem hf
      cases hk : dirK d.kind
      · show hasDir es (parentP p) = dirK d.kind
        rw [hk, hasDir, List.any_eq_false]
        intro x hx
        by_cases hxp : x.path = parentP p
        · have := rise_find h hx
          rw [hxp, hf] at this
          cases this
          simp [hk]
        · simp [hxp]
      · show hasDir es (parentP p) = dirK d.kind
        rw [hk, hasDir, List.any_eq_true]
        exact ⟨d, hd, by simp [hdp, hk]⟩
structure Right (es : List En) : Prop where
  len : es.length ≤ 12
  ent : ∀ e ∈ es, entFault e = 0
  rise : Rise es
  home : ∀ e ∈ es, homeP es e.path = true
theorem right_P {es : List En} : layFaultP es = 0 ↔ Right es := by
  unfold layFaultP
  by_cases h : 12 < es.length
  · rw [if_pos h]
    exact ⟨fun x => (by cases x), fun x => (by have := x.len; omega)⟩
  · rw [if_neg h, layFromH_zero]
    exact ⟨fun ⟨a, b, _⟩ => ⟨by omega, fun e he => (a e he).1, b, fun e he => (a e he).2⟩, fun x => ⟨fun e he => ⟨x.ent e he, x.home e he⟩, x.rise, fun q hq => by cases hq⟩⟩
theorem layFromH_congr {H H' : Bs → Bool} : ∀ {l : List En} {prev : Option En}, (∀ e ∈ l, entFault e = 0 → H e.path = H' e.path) → layFromH H prev l = layFromH H' prev l
  | [], _, _ => rfl
  | x :: r, prev, h => by
    have hx : entBadH H prev x = entBadH H' prev x := by
      unfold entBadH
      by_cases h1 : entFault x = 0
      · rw [h x List.mem_cons_self h1]
      · simp [h1]
    simp only [layFromH]
    rw [hx, layFromH_congr (l := r) (prev := some x) (fun e he => h e (List.mem_cons_of_mem _ he))]
theorem right_E {es : List En} : layFault es = 0 ↔ Right es := by
  unfold layFault
  by_cases h : 12 < es.length
  · rw [if_pos h]
    exact ⟨fun x => (by cases x), fun x => (by have := x.len; omega)⟩
  · rw [if_neg h, layFrom_H, layFromH_zero]
    exact ⟨fun ⟨a, b, _⟩ => ⟨by omega, fun e he => (a e he).1, b, fun e he => by rw [homeP_eq b]; exact (a e he).2⟩, fun x => ⟨fun e he => ⟨x.ent e he, by rw [← homeP_eq x.rise]; exact x.home e he⟩, x.rise, fun q hq => by cases hq⟩⟩

theorem belowB_iff {p t : Bs} : belowB p t = true ↔ ∃ r, r ≠ [] ∧ p = t ++ 47 :: r := by
  simp only [belowB, Bool.and_eq_true, decide_eq_true_eq, beq_iff_eq]
  constructor
  · rintro ⟨⟨hl, ht⟩, hh⟩
    cases e : p.drop t.length with
    | nil => rw [e] at hh; simp at hh
    | cons c r =>
      rw [e] at hh
      simp at hh
      subst hh
      refine ⟨r, ?_, ?_⟩
      · intro h0
        have := congrArg List.length e
        rw [List.length_drop, h0] at this
        simp at this
        omega
      · rw [← e]
        conv => lhs; rw [← List.take_append_drop t.length p, ht]
  · rintro ⟨r, hr, rfl⟩
    have := List.length_pos_iff.2 hr
    simp
    first | done | omega
theorem below_trans {p q t : Bs} (h1 : belowB p q = true) (h2 : belowB q t = true) : belowB p t = true := by
  obtain ⟨r, hr, rfl⟩ := belowB_iff.1 h1
  obtain ⟨s, hs, rfl⟩ := belowB_iff.1 h2
  exact belowB_iff.2 ⟨s ++ 47 :: r, by simp, by simp⟩
theorem below_len {p t : Bs} (h : belowB p t = true) : t.length < p.length := by
  obtain ⟨r, hr, rfl⟩ := belowB_iff.1 h
  simp
theorem parent_above {p : Bs} (hp : faultP p = 0) (h : parentP p ≠ []) : faultP (parentP p) = 0 ∧ belowB p (parentP p) = true := by
  have hm : parentP p ∈ aboveN (cutB p.tail) := by
    have hne : aboveN (cutB p.tail) ≠ [] := fun e => h (parentP_nil.2 e)
    unfold parentP
    rw [List.getLastD_eq_getLast?, List.getLast?_eq_some_getLast hne]
    exact List.getLast_mem _
  exact (above_iff hp).1 hm
theorem isBelow_eq {p t : Bs} (hp : faultP p = 0) (ht : faultP t = 0) : isBelow p t = belowB p t := by
  rw [isBelow_good hp]
  cases h : belowB p t <;> simp [ht]
theorem ousts_keep {e x : En} (he : faultP e.path = 0) (hx : faultP x.path = 0) : (!oustsE e x) = keepE e x := by
  unfold oustsE keepE atBelow
  rw [isBelow_eq hx he]
  cases dirK e.kind <;> cases belowB x.path e.path <;> by_cases h : x.path = e.path <;> simp [h]

theorem mem_putAt {bs : List En} {e x : En} : x ∈ putAt bs e ↔ x = e ∨ x ∈ bs := by
  have hb : x ∈ bs ↔ x ∈ bs.take (lowN bs e.path) ∨ x ∈ bs.drop (lowN bs e.path) := by
    conv => lhs; rw [← List.take_append_drop (lowN bs e.path) bs]
    exact List.mem_append
  unfold putAt
  rw [List.mem_append, List.mem_cons, hb]
  exact ⟨fun h => h.elim (fun h => .inr (.inl h)) (fun h => h.elim .inl (fun h => .inr (.inr h))), fun h => h.elim (fun h => .inr (.inl h)) (fun h => h.elim .inl (fun h => .inr (.inr h)))⟩
theorem mem_putE {es : List En} {e x : En} : x ∈ putE es e ↔ x = e ∨ (x ∈ es ∧ keepE e x = true) := by
  rw [putE, mem_putAt, baseE, List.mem_filter]
theorem low_take {p : Bs} : ∀ (bs : List En), ∀ x ∈ bs.take (lowN bs p), Op.bytesLess x.path p = true
  | [], x, hx => by simp [lowN] at hx
  | b :: bs, x, hx => by
    unfold lowN at hx
    rw [List.takeWhile_cons] at hx
    cases h : Op.bytesLess b.path p
    · rw [h] at hx; simp at hx
    · rw [h] at hx
      simp only [if_true, List.length_cons, List.take_succ_cons, List.mem_cons] at hx
      rcases hx with rfl | hx
      · exact h
      · exact low_take bs x hx
theorem low_drop {p : Bs} : ∀ (bs : List En), Rise bs → (∀ x ∈ bs, x.path ≠ p) → ∀ x ∈ bs.drop (lowN bs p), Op.bytesLess p x.path = true
  | [], _, _, x, hx => by simp at hx
  | b :: bs, hr, hn, x, hx => by
    unfold lowN at hx
    rw [List.takeWhile_cons] at hx
    cases h : Op.bytesLess b.path p
    · rw [h] at hx
      simp only [if_false, Bool.false_eq_true, List.length_nil, List.drop_zero] at hx
      have hb := bl_total _ _ h (hn b List.mem_cons_self)
      rcases List.mem_cons.1 hx with rfl | hx
      · exact hb
      · exact bl_trans _ _ _ hb ((List.pairwise_cons.1 hr).1 x hx)
    · rw [h] at hx
      simp only [if_true, List.length_cons, List.drop_succ_cons] at hx
      exact low_drop bs (List.pairwise_cons.1 hr).2 (fun y hy => hn y (List.mem_cons_of_mem _ hy)) x hx
theorem rise_putAt {bs : List En} {e : En} (h : Rise bs) (hn : ∀ x ∈ bs, x.path ≠ e.path) : Rise (putAt bs e) := by
  unfold putAt Rise
  rw [List.pairwise_append]
  refine ⟨h.sublist (List.take_sublist _ _), List.pairwise_cons.2 ⟨fun x hx => low_drop bs h hn x hx, h.sublist (List.drop_sublist _ _)⟩, fun x hx y hy => ?_⟩
  have h1 := low_take bs x hx
  rcases List.mem_cons.1 hy with rfl | hy
  · exact h1
  · exact bl_trans _ _ _ h1 (low_drop bs h hn y hy)
theorem rise_putE {es : List En} {e : En} (h : Rise es) : Rise (putE es e) := by
  refine rise_putAt (h.sublist List.filter_sublist) (fun x hx => ?_)
  have := (List.mem_filter.1 hx).2
  simp only [keepE, Bool.and_eq_true, Bool.not_eq_true', decide_eq_false_iff_not] at this
  exact this.1
theorem right_put {es : List En} {e : En} (h : Right es) (he : entFault e = 0) (hh : homeP es e.path = true) (hl : (putE es e).length ≤ 12) : Right (putE es e) := by
  have hpe := entFault_zero he
  refine ⟨hl, fun x hx => ?_, rise_putE h.rise, fun x hx => ?_⟩
  · rcases mem_putE.1 hx with rfl | ⟨hx, _⟩
    · exact he
    · exact h.ent x hx
  · rw [homeP_iff]
    rcases mem_putE.1 hx with rfl | ⟨hx, hk⟩
    · rcases homeP_iff.1 hh with h0 | ⟨d, hd, hdp, hdk⟩
      · exact .inl h0
      · by_cases h0 : parentP x.path = []
        · exact .inl h0
        · have hb := (parent_above hpe h0).2
          have hlen := below_len hb
          refine .inr ⟨d, mem_putE.2 (.inr ⟨hd, ?_⟩), hdp, hdk⟩
          have h1 : d.path ≠ x.path := fun e => by rw [hdp] at e; rw [e] at hlen; omega
          have h2 : belowB d.path x.path = false := by
            cases h3 : belowB d.path x.path
            · rfl
            · have := below_len h3; rw [hdp] at this; omega
          simp [keepE, h1, h2]
    · have hpx := entFault_zero (h.ent x hx)
      rcases homeP_iff.1 (h.home x hx) with h0 | ⟨d, hd, hdp, hdk⟩
      · exact .inl h0
      · by_cases h0 : parentP x.path = []
        · exact .inl h0
        · have hb := (parent_above hpx h0).2
          rw [← hdp] at hb
          simp only [keepE, Bool.and_eq_true, Bool.not_eq_true', decide_eq_false_iff_not, Bool.or_eq_true] at hk
          by_cases hde : d.path = e.path
          · rcases hk.2 with hk2 | hk2
            · exact .inr ⟨e, mem_putE.2 (.inl rfl), by rw [← hde]; exact hdp, hk2⟩
            · rw [hde] at hb; rw [hb] at hk2; cases hk2
          · refine .inr ⟨d, mem_putE.2 (.inr ⟨hd, ?_⟩), hdp, hdk⟩
            simp only [keepE, Bool.and_eq_true, Bool.not_eq_true', decide_eq_false_iff_not, Bool.or_eq_true]
            refine ⟨hde, hk.2.elim .inl (fun hk2 => .inr ?_)⟩
            cases h3 : belowB d.path e.path
            · rfl
            · rw [below_trans hb h3] at hk2; cases hk2
theorem right_rest {es : List En} {p : Bs} (h : Right es) (hp : faultP p = 0) : Right (restP es p) := by
  refine ⟨Nat.le_trans (restP_len es p) h.len, fun x hx => h.ent x (List.mem_filter.1 hx).1, h.rise.sublist List.filter_sublist, fun x hx => ?_⟩
  obtain ⟨hx, hk⟩ := List.mem_filter.1 hx
  have hpx := entFault_zero (h.ent x hx)
  rw [homeP_iff]
  rcases homeP_iff.1 (h.home x hx) with h0 | ⟨d, hd, hdp, hdk⟩
  · exact .inl h0
  · by_cases h0 : parentP x.path = []
    · exact .inl h0
    · have hb := (parent_above hpx h0).2
      rw [← hdp] at hb
      have hpd := entFault_zero (h.ent d hd)
      refine .inr ⟨d, List.mem_filter.2 ⟨hd, ?_⟩, hdp, hdk⟩
      simp only [atBelow, isBelow_eq hpx hp, Bool.not_eq_true', Bool.or_eq_false_iff, decide_eq_false_iff_not] at hk
      simp only [atBelow, isBelow_eq hpd hp, Bool.not_eq_true', Bool.or_eq_false_iff, decide_eq_false_iff_not]
      refine ⟨fun e => ?_, ?_⟩
      · rw [e] at hb; rw [hb] at hk; exact absurd hk.2 (by simp)
      · cases h3 : belowB d.path p
        · rfl
        · rw [below_trans hb h3] at hk; exact absurd hk.2 (by simp)
theorem right_nil : Right [] := ⟨by simp, fun e he => by simp at he, List.Pairwise.nil, fun e he => by simp at he⟩

def putCodeP (es : List En) (e : En) : Int :=
  if layFaultP es = 0 then (if entFault e = 0 then (if homeP es e.path then (if 12 < (putE es e).length then 2 else 0) else 9) else entFault e) else layFaultP es
def putListP (es : List En) (e : En) : List En := if putCodeP es e = 0 then putE es e else []
theorem putP_zero {es : List En} {e : En} (h : putCodeP es e = 0) : Right es ∧ entFault e = 0 ∧ homeP es e.path = true ∧ (putE es e).length ≤ 12 ∧ Right (putE es e) := by
  unfold putCodeP at h
  by_cases h1 : layFaultP es = 0
  · rw [if_pos h1] at h
    by_cases h2 : entFault e = 0
    · rw [if_pos h2] at h
      cases h3 : homeP es e.path
      · rw [h3] at h; simp at h
      · rw [h3] at h
        by_cases h4 : 12 < (putE es e).length
        · rw [if_pos rfl, if_pos h4] at h; cases h
        · have hR := right_P.1 h1
          exact ⟨hR, h2, rfl, by omega, right_put hR h2 h3 (by omega)⟩
    · rw [if_neg h2] at h; exact absurd h h2
  · rw [if_neg h1] at h; exact absurd h h1

end Go.Proofs.YtebgfaohhhgdpaaGreat

namespace Go.Proofs.YtebgfaohhhgdpaaGreat
set_option linter.unusedVariables false

def Good (es : List En) : Prop := layFaultP es = layFault es
theorem good_many {es : List En} (h : 12 < es.length) : Good es := by rw [Good, layFaultP_many h, layFault_many h]
theorem good_of {es : List En} (h : ¬ 12 < es.length) (hh : layFromH (homeP es) none es = layFromH (homeE es) none es) : Good es := by
  rw [Good, layFaultP, layFault, if_neg h, if_neg h, layFrom_H, hh]
theorem parent_ne {p : Bs} (h : faultP p = 0) (h0 : parentP p ≠ []) : parentP p ≠ p := by
  have := below_len (parent_above h h0).2
  intro e
  rw [e] at this
  omega
end Go.Proofs.YtebgfaohhhgdpaaGreat

namespace Go.Proofs.YtebgfaohhhgdpaaGreat
open Go.RowKit
set_option linter.unusedVariables false

def fnvStep (h z : Int) : Int := bits BinOp.xor IntKind.u32 h z * 16777619 % 4294967296
def fnv (zs : List Int) : Int := zs.foldl fnvStep 2166136261
def digest (zs : List Int) : Int := wrap64 (bits BinOp.xor IntKind.u32 (fnv zs) ((zs.length : Int) * 65536 % 4294967296))
theorem fnv_step {zs : List Int} {k : Nat} {z : Int} (hk : k < zs.length) (hz : zs.getD k 0 = z) : fnv (zs.take (k + 1)) = fnvStep (fnv (zs.take k)) z := by
  unfold fnv
  rw [List.take_succ_eq_append_getElem hk, List.foldl_append]
  simp [List.getD_eq_getElem?_getD, hk] at hz
  simp [hz]

set_option maxHeartbeats 400000 in
theorem specDigestOf_any (a : Option Addr) (cap : Nat) (zs : List Int) (w : World) (h : Reads .u8 w a zs) (hu : U8 zs) (hl : zs.length ≤ 1048576) :
    Calls Tryz.prog 182 #[.slice a zs.length cap] w fun e w' => e = .returned (.int .i64 (digest zs)) ∧ w' = w := by
  go_enter Tryz.func182, Tryz.ntmps182
  go_wp2
  go_loop [3, 4] (fun h i => ∃ k : Nat, k ≤ zs.length ∧ i = .int .i64 k ∧ h = .int .u32 (fnv (zs.take k))) (fun _ i => zs.length - (intOf i).toNat)
  case atStart => exact ⟨0, Nat.zero_le _, rfl, rfl⟩
  case round =>
    obtain ⟨k, hk, rfl, rfl⟩ := hrel
    generalize hx : fnv (zs.take k) = x
    have HX := hide hx
    clear hx
    by_cases hlt : k < zs.length
    · obtain ⟨b, off, rfl, hb, hc⟩ := h (by intro e; simp [e] at hlt)
      have hz01 := hu.get k
      have hc1 := hc k hlt
      generalize hz : zs.getD k 0 = z at hz01 hc1
      have HZ := hide hz
      have HC := hide hc
      clear hc h hz
      go_wp2
      go_round
      case rel => exact ⟨k + 1, by omega, by go_num, by rw [fnv_step hlt HZ.out, HX.out]; rfl⟩
      case measure => simp [intOf]; omega
    · go_wp2
      go_ret
      exact ⟨ret_int (by unfold digest; rw [← HX.out, List.take_of_length_le (by omega)]), rfl⟩

set_option maxHeartbeats 400000 in
theorem implDigestOf_any (a : Option Addr) (cap : Nat) (zs : List Int) (w : World) (h : Reads .u8 w a zs) (hu : U8 zs) (hl : zs.length ≤ 1048576) :
    Calls Tryz.prog 128 #[.slice a zs.length cap] w fun e w' => e = .returned (.int .i64 (digest zs)) ∧ w' = w := by
  go_enter Tryz.func128, Tryz.ntmps128
  go_wp2
  go_loop [3, 5, 8] (fun h _ i => ∃ k : Nat, k ≤ zs.length ∧ i = .int .i64 k ∧ h = .int .u32 (fnv (zs.take k))) (fun _ _ i => zs.length - (intOf i).toNat)
  case atStart => exact ⟨0, Nat.zero_le _, rfl, rfl⟩
  case round =>
    obtain ⟨k, hk, rfl, rfl⟩ := hrel
    generalize hx : fnv (zs.take k) = x
    have HX := hide hx
    clear hx
    by_cases hlt : k < zs.length
    · obtain ⟨b, off, rfl, hb, hc⟩ := h (by intro e; simp [e] at hlt)
      have hz01 := hu.get k
      have hc1 := hc k hlt
      generalize hz : zs.getD k 0 = z at hz01 hc1
      have HZ := hide hz
      have HC := hide hc
      clear hc h hz
      go_wp2
      go_round
      case rel => exact ⟨k + 1, by omega, by go_num, by rw [fnv_step hlt HZ.out, HX.out]; rfl⟩
      case measure => simp [intOf]; omega
    · go_wp2
      go_ret
      exact ⟨ret_int (by unfold digest; rw [← HX.out, List.take_of_length_le (by omega)]), rfl⟩

theorem bits_u32 (op : BinOp) (x y : Int) : 0 ≤ bits op .u32 x y ∧ bits op .u32 x y < 4294967296 := by
  unfold bits
  simp only [IntKind.wrap_u32]
  omega
theorem digest_range (zs : List Int) : 0 ≤ digest zs ∧ digest zs ≤ 4294967295 := by
  have h := bits_u32 .xor (fnv zs) ((zs.length : Int) * 65536 % 4294967296)
  unfold digest wrap64
  omega

end Go.Proofs.YtebgfaohhhgdpaaGreat

namespace Go.Proofs.YtebgfaohhhgdpaaGreat
open Go.RowKit
set_option linter.unusedVariables false

theorem reads_of_ownsRow {w : World} {B : Nat} {e : TypeId} {k : IntKind} {g n c : Nat} {zs : List Int} (h : w.ownsRow B e 1 (.slice (some ⟨g, 0, none⟩) n c) n (zs.map (Value.int k))) (hn : n = zs.length) : Own k w (some ⟨g, 0, none⟩) zs := by
  intro hz
  have h0 : 0 < n := by rw [hn]; exact List.length_pos_iff.2 hz
  refine ⟨g, 0, rfl, (h.lt g rfl).2, fun i hi => ⟨?_, h.frozenAt _⟩⟩
  rw [Nat.zero_add, h.cellAt i (by omega)]
  simp [List.getD_eq_getElem?_getD, hi]

theorem Grow2.shape {B : Nat} {w : World} {v : Value} {P : Nat → List Int} {j : Nat} (h : Grow2 B w v P j) : ∃ a c, v = .slice a j c := by
  obtain ⟨A, C, h1, h2, h3⟩ := h
  exact ownsRow_shape h1

def G2 (B T : Nat) (w : World) (v : Value) (P : Nat → List Int) (n : Nat) : Prop :=
  ∃ A C : Nat → Nat, w.ownsRow B 22 1 v n ((List.range n).map fun i => .slice (some ⟨A i, 0, none⟩) (P i).length (C i)) ∧
    (∀ i, i < n → w.ownsRow B 5 1 (.slice (some ⟨A i, 0, none⟩) (P i).length (C i)) (P i).length ((P i).map (Value.int .u8))) ∧
    (∀ i i', i < n → i' < n → A i = A i' → i = i') ∧ (∀ i, i < n → A i < T) ∧ ∀ b, v.ownBlock = some b → b < T
theorem U8.piece {zs : List Int} (h : U8 zs) (i : Nat) : U8 (piece zs i) := fun z hz => h z (List.mem_of_mem_drop (List.mem_of_mem_take hz))

theorem Grow2.at {B : Nat} {w : World} {a : Option Addr} {c : Nat} {P : Nat → List Int} {n j : Nat} (h : Grow2 B w (.slice a n c) P n) (hj : j < n) :
    ∃ g x d, a = some ⟨g, 0, none⟩ ∧ w.cell? ⟨g, j, none⟩ = some (.slice x (P j).length d) ∧ Reads .u8 w x (P j) := by
  obtain ⟨A, C, h1, h2, h3⟩ := h
  rcases h1.2 with ⟨_, h0⟩ | ⟨g, cap, cur, h', hb, hh, _⟩
  · omega
  · simp only [Value.slice.injEq, true_and] at h'
    obtain ⟨rfl, rfl⟩ := h'
    refine ⟨g, _, C j, rfl, ?_, (reads_of_ownsRow (h2 j hj) rfl).reads⟩
    rw [h1.cellAt j (by omega)]
    simp [hj]

end Go.Proofs.YtebgfaohhhgdpaaGreat

namespace Go.Proofs.YtebgfaohhhgdpaaGreat
open Go.RowKit
set_option linter.unusedVariables false

def G1 (B T : Nat) (w : World) (v : Value) (ds : List Int) : Prop :=
  w.ownsRow B 2 1 v ds.length (ds.map (Value.int .i64)) ∧ ∀ b, v.ownBlock = some b → b < T
end Go.Proofs.YtebgfaohhhgdpaaGreat

namespace Go.Proofs.YtebgfaohhhgdpaaGreat
open Go.RowKit
set_option linter.unusedVariables false

def digs (zs : List Int) (j : Nat) : List Int := (List.range j).map fun i => digest (piece zs i)
theorem digs_length (zs : List Int) (j : Nat) : (digs zs j).length = j := by simp [digs]
theorem digs_succ (zs : List Int) (j : Nat) : (digs zs (j + 1)).map (Value.int .i64) = (digs zs j).map (Value.int .i64) ++ [.int .i64 (digest (piece zs j))] := by
  simp [digs, List.range_succ]
theorem Grow2.kept_own {B B' : Nat} {w w' : World} {v v' : Value} {P : Nat → List Int} {n n' size : Nat} {e : TypeId} {xs : List Value} (h : Grow2 B w v P n) (ho : w.ownsRow B' e size v' n' xs) (h1 : e ≠ 22) (h2 : e ≠ 5) (hk : Kept (fun b => v'.ownBlock = some b) w w') : Grow2 B w' v P n := by
  obtain ⟨A, C, k1, k2, k3⟩ := h
  exact ⟨A, C, ownsRow_kept k1 hk (fun b hb hS => ownsRow_apart ho k1 h1 hS hb), fun i hi => ownsRow_kept (k2 i hi) hk (fun b hb hS => ownsRow_apart ho (k2 i hi) h2 hS hb), k3⟩

set_option maxHeartbeats 800000 in
theorem l1Digests_any (a : Option Addr) (cap : Nat) (zs : List Int) (w : World) (h : Reads .u8 w a zs) (hu : U8 zs) (hcap : zs.length ≤ cap) (hl : zs.length ≤ 24) :
    Calls Tryz.prog 143 #[.slice a zs.length cap] w fun e w' => ∃ v, e = .returned v ∧ w'.ownsRow w.heap.size 2 1 v (cut zs).length ((digs zs (cut zs).length).map (Value.int .i64)) ∧ Below w.heap.size w w' := by
  obtain ⟨i1, ki, kz0, kz1, kz2⟩ := info_parts Tryz.infoI64
  have HR := hide h
  have HU := hide hu
  clear h hu
  have hcl : (cut zs).length ≤ 3 := by rw [cut_length]; omega
  go_enter Tryz.func143, Tryz.ntmps143
  go_wp2_with fail
  refine (l1Cut_any a cap zs _ (HR.out.below (below_alloc _ _)) hcap (by omega)).mono ?_
  rintro e w1 ⟨pv, rfl, hG, hb1⟩
  obtain ⟨pa, pc, rfl⟩ := hG.shape
  generalize hN : (cut zs).length = N at *
  have HN := hide hN
  clear hN
  have O1 := hide (ownsRow_below (World.ownsRow_made (base := w.heap.size) (e := 2) (size := 1) w #[] 0 (Nat.le_refl _) (Nat.zero_le _) rfl) hb1)
  have HG := hide (hG.mono (B' := w.heap.size) (by simp))
  have HB := hide (below_next (below_alloc w (.cells #[] 2)) hb1)
  clear hG hb1
  go_wp2_with fail
  go_loopw [3, 5] (fun v i wr => ∃ j : Nat, j ≤ N ∧ i = .int .i64 j ∧ wr.ownsRow w.heap.size 2 1 v j ((digs zs j).map (Value.int .i64)) ∧ Grow2 w.heap.size wr (.slice pa N pc) (piece zs) N ∧ Below w.heap.size w wr) (fun _ i _ => N - (intOf i).toNat)
  case atStart => exact ⟨0, Nat.zero_le _, rfl, O1.out, HG.out, HB.out⟩
  case round =>
    obtain ⟨j, hj, rfl, hown, hG, hbel⟩ := hrel
    by_cases hlt : j < N
    · obtain ⟨g, x, d, rfl, hc0, hr0⟩ := hG.at hlt
      have hpl : (piece zs j).length ≤ 1048576 := by rw [piece_length]; omega
      have hm1 : j + 1 ≤ maxLen := by unfold maxLen; omega
      have hm2 : (j + 1) * 8 ≤ 140737488355328 := by omega
      have hsz := hbel.size
      have HR0 := hide hr0
      have HO := hide hown
      have HGj := hide hG
      have HBj := hide hbel
      clear hr0 hown hG hbel
      go_wp2_with (first | (go_at_call 182; refine (specDigestOf_any _ _ (piece zs j) _ HR0.out (HU.out.piece j) hpl).mono ?_; rintro e w1' ⟨rfl, rfl⟩) | (at_builtin; refine wpList_append_one rfl (.tmp 15) (.tmp 21) 51 rfl w.heap.size 2 i1 (.int .i64 0) 1 8 Tryz.underlying51 ki kz0 kz1 kz2 rfl (by decide) _ _ _ rfl HO.out rfl rfl (by intro u hu; simp at hu; subst hu; rfl) hm1 hm2 hsz ?_; intro v' w2 hown2 hkept; have O2 := hide hown2; have K2 := hide hkept; clear hown2 hkept))
      go_roundw
      case rel => exact ⟨j + 1, by omega, by go_num, by rw [digs_succ]; exact O2.out, HGj.out.kept_own HO.out (by decide) (by decide) K2.out, Kept.below_own HBj.out hsz HO.out K2.out⟩
      case measure => simp [intOf]; omega
    · have hje : j = N := by omega
      subst hje
      go_wp2
      go_ret
      exact ⟨_, rfl, by rw [HN.out]; exact hown, hbel⟩



set_option maxHeartbeats 400000 in
theorem implDigestsOf_no (a : Option Addr) (cap : Nat) (zs : List Int) (w : World) (hl : 24 < zs.length) (hl2 : zs.length ≤ 1048576) :
    Calls Tryz.prog 77 #[.slice a zs.length cap] w fun e w' => e = .returned (.agg #[.int .i64 2, .slice none 0 0]) ∧ Below w.heap.size w w' := by
  go_enter Tryz.func77, Tryz.ntmps77
  go_wp2_with fail
  refine (implCutChunks_no a cap zs _ hl hl2).mono ?_
  rintro e w1 ⟨rfl, hb1⟩
  obtain ⟨⟨q0, q1⟩, q2, q3⟩ := (Box.new w (.int .i64 0) (.slice none 0 0) 94).below hb1
  have n1 : w.heap.size < w1.heap.size := by have := hb1.size; simp at this; omega
  have HB := hide (below_next (below_alloc w (.cells #[.int .i64 0, .slice none 0 0] 94)) hb1)
  clear hb1
  go_wp2_with fail
  exact bodyPost_ret (v := .agg #[.int .i64 2, .slice none 0 0]) (by simp [results, Tryz.results77, go_sem, q0, q1, n1]) rfl ⟨rfl, below_next ((HB.out.setCell (Nat.le_refl _) _).setCell (Nat.le_refl _) _) (below_alloc _ _)⟩

set_option maxHeartbeats 800000 in
theorem implDigestsOf_ok (a : Option Addr) (cap : Nat) (zs : List Int) (w : World) (h : Reads .u8 w a zs) (hu : U8 zs) (hcap : zs.length ≤ cap) (hl : zs.length ≤ 24) :
    Calls Tryz.prog 77 #[.slice a zs.length cap] w fun e w' => ∃ v, e = .returned (.agg #[.int .i64 0, v]) ∧ w'.ownsRow w.heap.size 2 1 v (cut zs).length ((digs zs (cut zs).length).map (Value.int .i64)) ∧ Below w.heap.size w w' := by
  obtain ⟨i1, ki, kz0, kz1, kz2⟩ := info_parts Tryz.infoI64
  have HR := hide h
  have HU := hide hu
  clear h hu
  have hcl : (cut zs).length ≤ 3 := by rw [cut_length]; omega
  go_enter Tryz.func77, Tryz.ntmps77
  go_wp2_with fail
  refine (implCutChunks_ok a cap zs _ (HR.out.below (below_alloc _ _)) hcap hl).mono ?_
  rintro e w1 ⟨pv, rfl, hG, hb1⟩
  obtain ⟨pa, pc, rfl⟩ := hG.shape
  generalize hN : (cut zs).length = N at *
  have HN := hide hN
  clear hN
  have n1 : w.heap.size < w1.heap.size := by have := hb1.size; simp at this; omega
  have X1 := hide ((Box.new w (.int .i64 0) (.slice none 0 0) 94).below hb1)
  have HG := hide (hG.mono (B' := w.heap.size + 1) (by simp))
  have HB := hide (below_next (below_alloc w (.cells #[.int .i64 0, .slice none 0 0] 94)) hb1)
  clear hG hb1
  go_wp2_with fail
  go_loopw [4, 6, 18] (fun v _ i wr => ∃ j : Nat, j ≤ N ∧ i = .int .i64 j ∧ wr.ownsRow (w.heap.size + 1) 2 1 v j ((digs zs j).map (Value.int .i64)) ∧ Grow2 (w.heap.size + 1) wr (.slice pa N pc) (piece zs) N ∧ Box wr w.heap.size (.int .i64 0) (.slice none 0 0) ∧ w.heap.size + 1 ≤ wr.heap.size ∧ Below w.heap.size w wr) (fun _ _ i _ => N - (intOf i).toNat)
  case atStart => exact ⟨0, Nat.zero_le _, rfl, World.ownsRow_nil _ _ _ _, HG.out.below (below_alloc _ _), X1.out.below (below_alloc _ _), by simp; omega, below_next HB.out (below_alloc _ _)⟩
  case round =>
    obtain ⟨j, hj, rfl, hown, hG, hbox, hsz, hbel⟩ := hrel
    by_cases hlt : j < N
    · obtain ⟨g, x, d, rfl, hc0, hr0⟩ := hG.at hlt
      have hpl : (piece zs j).length ≤ 1048576 := by rw [piece_length]; omega
      have hm1 : j + 1 ≤ maxLen := by unfold maxLen; omega
      have hm2 : (j + 1) * 8 ≤ 140737488355328 := by omega
      have HR0 := hide hr0
      have HO := hide hown
      have HGj := hide hG
      have HBj := hide hbel
      have HX := hide hbox
      clear hr0 hown hG hbel hbox
      go_wp2_with (first | (go_at_call 128; refine (implDigestOf_any _ _ (piece zs j) _ HR0.out (HU.out.piece j) hpl).mono ?_; rintro e w1' ⟨rfl, rfl⟩) | (at_builtin; refine wpList_append_one rfl (.tmp 22) (.tmp 25) 51 rfl (w.heap.size + 1) 2 i1 (.int .i64 0) 1 8 Tryz.underlying51 ki kz0 kz1 kz2 rfl (by decide) _ _ _ rfl HO.out rfl rfl (by intro u hu; simp at hu; subst hu; rfl) hm1 hm2 hsz ?_; intro v' w2 hown2 hkept; have O2 := hide hown2; have K2 := hide hkept; clear hown2 hkept))
      go_roundw
      case rel => exact ⟨j + 1, by omega, by go_num, by rw [digs_succ]; exact O2.out, HGj.out.kept_own HO.out (by decide) (by decide) K2.out, HX.out.kept K2.out (fun hS => by have := (HO.out.lt _ hS).1; omega), Nat.le_trans hsz K2.out.size, HBj.out.trans (K2.out.below HBj.out.size (fun k hk hS => by have := (HO.out.lt _ hS).1; omega))⟩
      case measure => simp [intOf]; omega
    · have hje : j = N := by omega
      subst hje
      obtain ⟨av, cv, rfl⟩ := ownsRow_shape hown
      obtain ⟨⟨q0, q1⟩, q2, q3⟩ := hbox
      have HO := hide hown
      have HBj := hide hbel
      clear hown hbel hG
      go_wp2
      refine bodyPost_ret (v := .agg #[.int .i64 0, .slice av j cv]) (by simp [results, Tryz.results77, go_sem, q0, q1]) rfl ⟨_, rfl, ?_, (HBj.out.setCell (Nat.le_refl _) _).setCell (Nat.le_refl _) _⟩
      rw [HN.out]
      exact ownsRow_mono (ownsRow_kept (S := fun b => b = w.heap.size) HO.out (Kept.two _ _ _ _ _ _) (fun b hb e => by have := (HO.out.lt b hb).1; omega)) (by omega)

end Go.Proofs.YtebgfaohhhgdpaaGreat

