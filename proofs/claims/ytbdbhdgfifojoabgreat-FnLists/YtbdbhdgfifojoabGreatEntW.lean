/-
  The model's Without and DropBelow.
-/
import Derived.Test.YtbdbhdgfifojoabGreatEntA
namespace Go.Proofs.YtbdbhdgfifojoabGreat
open Go.RowKit Go.Maps
set_option linter.unusedVariables false
attribute [local go_sem ↓] Go.wp_at_zero Go.wp_at_succ

/-- Is an entry dropped with a path? -/
def goesE (p : Bs) (also : Bool) (e : En) : Bool := belowB e.path p || (also && decide (e.path = p))
def restE (es : List En) (p : Bs) (also : Bool) : List En := es.filter fun e => !(goesE p also e)
theorem restE_take_in {es : List En} {p : Bs} {also : Bool} {k : Nat} {e : En} (he : es[k]? = some e) (h : goesE p also e = false) : restE (es.take (k + 1)) p also = restE (es.take k) p also ++ [e] := by
  rw [take_snoc_at he]; simp [restE, h]
theorem restE_take_out {es : List En} {p : Bs} {also : Bool} {k : Nat} {e : En} (he : es[k]? = some e) (h : goesE p also e = true) : restE (es.take (k + 1)) p also = restE (es.take k) p also := by
  rw [take_snoc_at he]; simp [restE, h]
theorem restE_len (es : List En) (p : Bs) (also : Bool) : (restE es p also).length ≤ es.length := List.length_filter_le _ _
theorem restE_small {es : List En} (h : SmallE es) (p : Bs) (also : Bool) : SmallE (restE es p also) := fun e he => h e (List.mem_filter.1 he).1
theorem SE.made (w : World) : SE w.heap.size (w.alloc (.cells #[] 36)) (.slice (some ⟨w.heap.size, 0, none⟩) 0 0) [] := (GE.made w).se

/-- v is a row of entries made since w0, whose chunks were read then. -/
def LE (w0 w : World) (v : Value) (es : List En) : Prop :=
  ∃ rs : List Rw, rs.map Rw.e = es ∧ w.ownsRow w0.heap.size 36 4 v es.length (rowR rs) ∧ ∀ r ∈ rs, Reads .i64 w0 r.a r.e.chunks
theorem LE.se {w0 w : World} {v : Value} {es : List En} (h : LE w0 w v es) (hb : Below w0.heap.size w0 w) : SE w0.heap.size w v es := by
  obtain ⟨rs, he, h1, h2⟩ := h
  exact ⟨rs, he, h1, fun r hr => (h2 r hr).below hb⟩
theorem LE.shape {w0 w : World} {v : Value} {es : List En} (h : LE w0 w v es) : ∃ a c, v = .slice a es.length c := by
  obtain ⟨rs, _, h1, _⟩ := h
  exact ownsRow_shape h1
theorem LE.made (w : World) : LE w (w.alloc (.cells #[] 36)) (.slice (some ⟨w.heap.size, 0, none⟩) 0 0) [] :=
  ⟨[], rfl, World.ownsRow_made w #[] 0 (Nat.le_refl _) (Nat.zero_le _) rfl, fun r hr => by simp at hr⟩
theorem LE.push {w0 w2 : World} {v' : Value} {es : List En} {rs : List Rw} {e : En} {a : Option Addr} {c m : Nat} (he : rs.map Rw.e = es) (hm : m = es.length)
    (h2 : ∀ r ∈ rs, Reads .i64 w0 r.a r.e.chunks) (hr : Reads .i64 w0 a e.chunks)
    (hv' : w2.ownsRow w0.heap.size 36 4 v' (m + 1) (rowR rs ++ cellsR ⟨e, a, c⟩)) : LE w0 w2 v' (es ++ [e]) := by
  subst hm
  refine ⟨rs ++ [⟨e, a, c⟩], by rw [List.map_append, he]; rfl, ?_, fun r hx => ?_⟩
  · rw [rowR_append, List.length_append]
    simpa [rowR] using hv'
  · rcases List.mem_append.1 hx with hx | hx
    · exact h2 r hx
    · simp only [List.mem_singleton] at hx
      subst hx
      exact hr

set_option maxRecDepth 100000 in
set_option maxHeartbeats 3200000 in
theorem l4Without_any (a : Option Addr) (c n : Nat) (es : List En) (p : Bs) (also : Bool) (w : World) (h : RdE w a es) (hn : n = es.length) (hl : es.length ≤ 1048576) (hs : SmallE es) (hp : p.length ≤ 1048576) :
    Calls Tryz.prog 85 #[.slice a n c, .string (str p), .bool also] w fun r w' => ∃ g cv, r = .returned (.slice (some ⟨g, 0, none⟩) (restE es p also).length cv) ∧ GE w.heap.size w'.heap.size w' (.slice (some ⟨g, 0, none⟩) (restE es p also).length cv) (restE es p also) ∧ Below w.heap.size w w' := by
  subst hn
  obtain ⟨i1, ki, kz0, kz1, kz2⟩ := info_parts Tryz.infoEn
  have HA := hide h
  have HS := hide hs
  clear h hs
  cases also
  case false =>
    go_enter Tryz.func85, Tryz.ntmps85
    go_wp2_with fail
    go_loopw [7, 8] (fun v i wr => ∃ j : Nat, j ≤ es.length ∧ i = .int .i64 j ∧ Hid (LE w wr v (restE (es.take j) p false)) ∧ Hid (∃ g, v.ownBlock = some g) ∧ Hid (Below w.heap.size w wr)) (fun _ i _ => es.length - (intOf i).toNat)
    case atStart => exact ⟨0, Nat.zero_le _, rfl, hide (LE.made w), hide ⟨_, rfl⟩, hide (below_alloc _ _)⟩
    case round =>
      obtain ⟨j, hj, rfl, HG, HOb, HW⟩ := hrel
      obtain ⟨lv, lc, rfl⟩ := HG.out.shape
      have hrl := restE_len (es.take j) p false
      have htl := take_len hj
      have hsz := HW.out.size
      by_cases hlt : j < es.length
      · obtain ⟨b, off, e, x, cc, rfl, hb, he, c0, c1, c2, c3, hr⟩ := HA.out.at hlt
        have HX := hide he
        have HRc := hide hr
        have hsm := HS.out e (List.mem_of_getElem? he)
        have c0 := (HW.out.cell (p := ⟨b, off + j * 4, none⟩) hb).trans c0
        have c1 := (HW.out.cell (p := ⟨b, off + j * 4 + 1, none⟩) hb).trans c1
        have c2 := (HW.out.cell (p := ⟨b, off + j * 4 + 2, none⟩) hb).trans c2
        have c3 := (HW.out.cell (p := ⟨b, off + j * 4 + 3, none⟩) hb).trans c3
        have hm1 : (restE (es.take j) p false).length + 1 ≤ maxLen := by unfold maxLen; omega
        have hm1' : ((restE (es.take j) p false).length + 1) * 56 ≤ 140737488355328 := by omega
        clear he hr htl hrl
        cases hbl : belowB e.path p
        · have HBl := hide hbl
          clear hbl
          have HO := hide (restE_take_in HX.out (show goesE p false e = false from by simp [goesE, HBl.out]))
          obtain ⟨rs, g1, g2, g3⟩ := HG.out
          have G1 := hide g1
          have G2 := hide g2
          have G3 := hide g3
          clear g1 g2 g3 HG
          go_wp2_with (first | (go_at_call 97; refine (l3Below_any _ _ _ (by rw [str_size]; omega) (by rw [str_size]; omega)).mono ?_; rintro r w' ⟨rfl, rfl⟩; rw [str_data, str_data, HBl.out]) | (at_builtin; refine wpList_append_put rfl (.tmp 35) (.tmp 40) 24 rfl w.heap.size 36 i1 (.agg #[.string ⟨#[]⟩, .int .i64 0, .int .i64 0, .slice none 0 0]) 4 56 Tryz.underlying24 ki kz0 kz1 kz2 rfl (by decide) _ _ _ rfl G2.out _ rfl rfl rfl (by intro u hu; simp at hu; rcases hu with rfl | rfl | rfl | rfl <;> rfl) hm1 hm1' (by omega) ?_; intro av3 cv3 w3 hown2 hkept; have O3 := hide hown2; have K3 := hide hkept; clear hown2 hkept))
          go_roundw
          case rel =>
            refine ⟨j + 1, by omega, by go_num, hide ?_, hide ?_, hide ?_⟩
            · rw [HO.out]
              exact LE.push G1.out rfl G3.out HRc.out O3.out
            · obtain ⟨g5, h5, _⟩ := row_addr O3.out (.inl (by omega))
              exact ⟨g5, by rw [h5]; rfl⟩
            · exact HW.out.trans (K3.out.below (by omega) (fun k hk hx => by have := (G2.out.lt k hx).1; omega))
          case measure => simp [intOf]; omega
        · have HBl := hide hbl
          clear hbl
          have HO := hide (restE_take_out HX.out (show goesE p false e = true from by simp [goesE, HBl.out]))
          go_wp2_with (go_at_call 97; refine (l3Below_any _ _ _ (by rw [str_size]; omega) (by rw [str_size]; omega)).mono ?_; rintro r w' ⟨rfl, rfl⟩; rw [str_data, str_data, HBl.out])
          go_roundw
          case rel => exact ⟨j + 1, by omega, by go_num, hide (by rw [HO.out]; exact HG.out), HOb, HW⟩
          case measure => simp [intOf]; omega
      · have hE : es.take j = es := List.take_of_length_le (by omega)
        rw [hE] at HG hrl htl ⊢
        clear hE
        have HC := hide (l4Copy_any lv lc (restE es p false).length (restE es p false) wr ((HG.out.se HW.out).rd) rfl (by omega) (restE_small HS.out p false))
        clear HG hrl htl
        go_wp2_with fail
        refine HC.out.mono ?_
        rintro r w3 ⟨g, cv, rfl, hcv, hG, hb3⟩
        have GG := hide (hG.mono hsz)
        have B3 := hide (below_next HW.out hb3)
        clear hG hb3
        go_wp2_with fail
        go_ret
        exact ⟨_, _, rfl, GG.out, B3.out⟩
  case true =>
    go_enter Tryz.func85, Tryz.ntmps85
    go_wp2_with fail
    go_loopw [7, 8] (fun v i wr => ∃ j : Nat, j ≤ es.length ∧ i = .int .i64 j ∧ Hid (LE w wr v (restE (es.take j) p true)) ∧ Hid (∃ g, v.ownBlock = some g) ∧ Hid (Below w.heap.size w wr)) (fun _ i _ => es.length - (intOf i).toNat)
    case atStart => exact ⟨0, Nat.zero_le _, rfl, hide (LE.made w), hide ⟨_, rfl⟩, hide (below_alloc _ _)⟩
    case round =>
      obtain ⟨j, hj, rfl, HG, HOb, HW⟩ := hrel
      obtain ⟨lv, lc, rfl⟩ := HG.out.shape
      have hrl := restE_len (es.take j) p true
      have htl := take_len hj
      have hsz := HW.out.size
      by_cases hlt : j < es.length
      · obtain ⟨b, off, e, x, cc, rfl, hb, he, c0, c1, c2, c3, hr⟩ := HA.out.at hlt
        have HX := hide he
        have HRc := hide hr
        have hsm := HS.out e (List.mem_of_getElem? he)
        have c0 := (HW.out.cell (p := ⟨b, off + j * 4, none⟩) hb).trans c0
        have c1 := (HW.out.cell (p := ⟨b, off + j * 4 + 1, none⟩) hb).trans c1
        have c2 := (HW.out.cell (p := ⟨b, off + j * 4 + 2, none⟩) hb).trans c2
        have c3 := (HW.out.cell (p := ⟨b, off + j * 4 + 3, none⟩) hb).trans c3
        have hm1 : (restE (es.take j) p true).length + 1 ≤ maxLen := by unfold maxLen; omega
        have hm1' : ((restE (es.take j) p true).length + 1) * 56 ≤ 140737488355328 := by omega
        clear he hr htl hrl
        cases hbl : belowB e.path p
        · have HBl := hide hbl
          clear hbl
          by_cases hq : e.path = p
          · have hq2 := str_yes hq
            have HQ := hide hq
            clear hq
            have HO := hide (restE_take_out HX.out (show goesE p true e = true from by simp [goesE, HQ.out]))
            go_wp2_with (go_at_call 97; refine (l3Below_any _ _ _ (by rw [str_size]; omega) (by rw [str_size]; omega)).mono ?_; rintro r w' ⟨rfl, rfl⟩; rw [str_data, str_data, HBl.out])
            go_roundw
            case rel => exact ⟨j + 1, by omega, by go_num, hide (by rw [HO.out]; exact HG.out), HOb, HW⟩
            case measure => simp [intOf]; omega
          · have hq2 := str_no hq
            have HQ := hide hq
            clear hq
            have HO := hide (restE_take_in HX.out (show goesE p true e = false from by simp [goesE, HBl.out]; exact HQ.out))
            obtain ⟨rs, g1, g2, g3⟩ := HG.out
            have G1 := hide g1
            have G2 := hide g2
            have G3 := hide g3
            clear g1 g2 g3 HG
            go_wp2_with (first | (go_at_call 97; refine (l3Below_any _ _ _ (by rw [str_size]; omega) (by rw [str_size]; omega)).mono ?_; rintro r w' ⟨rfl, rfl⟩; rw [str_data, str_data, HBl.out]) | (at_builtin; refine wpList_append_put rfl (.tmp 35) (.tmp 40) 24 rfl w.heap.size 36 i1 (.agg #[.string ⟨#[]⟩, .int .i64 0, .int .i64 0, .slice none 0 0]) 4 56 Tryz.underlying24 ki kz0 kz1 kz2 rfl (by decide) _ _ _ rfl G2.out _ rfl rfl rfl (by intro u hu; simp at hu; rcases hu with rfl | rfl | rfl | rfl <;> rfl) hm1 hm1' (by omega) ?_; intro av3 cv3 w3 hown2 hkept; have O3 := hide hown2; have K3 := hide hkept; clear hown2 hkept))
            go_roundw
            case rel =>
              refine ⟨j + 1, by omega, by go_num, hide ?_, hide ?_, hide ?_⟩
              · rw [HO.out]
                exact LE.push G1.out rfl G3.out HRc.out O3.out
              · obtain ⟨g5, h5, _⟩ := row_addr O3.out (.inl (by omega))
                exact ⟨g5, by rw [h5]; rfl⟩
              · exact HW.out.trans (K3.out.below (by omega) (fun k hk hx => by have := (G2.out.lt k hx).1; omega))
            case measure => simp [intOf]; omega
        · have HBl := hide hbl
          clear hbl
          have HO := hide (restE_take_out HX.out (show goesE p true e = true from by simp [goesE, HBl.out]))
          go_wp2_with (go_at_call 97; refine (l3Below_any _ _ _ (by rw [str_size]; omega) (by rw [str_size]; omega)).mono ?_; rintro r w' ⟨rfl, rfl⟩; rw [str_data, str_data, HBl.out])
          go_roundw
          case rel => exact ⟨j + 1, by omega, by go_num, hide (by rw [HO.out]; exact HG.out), HOb, HW⟩
          case measure => simp [intOf]; omega
      · have hE : es.take j = es := List.take_of_length_le (by omega)
        rw [hE] at HG hrl htl ⊢
        clear hE
        have HC := hide (l4Copy_any lv lc (restE es p true).length (restE es p true) wr ((HG.out.se HW.out).rd) rfl (by omega) (restE_small HS.out p true))
        clear HG hrl htl
        go_wp2_with fail
        refine HC.out.mono ?_
        rintro r w3 ⟨g, cv, rfl, hcv, hG, hb3⟩
        have GG := hide (hG.mono hsz)
        have B3 := hide (below_next HW.out hb3)
        clear hG hb3
        go_wp2_with fail
        go_ret
        exact ⟨_, _, rfl, GG.out, B3.out⟩

/-- What DropBelow answers. -/
def dropList (es : List En) (p : Bs) : List En := if askE es p = 0 then restE es p true else []

end Go.Proofs.YtbdbhdgfifojoabGreat
