/-
  The program's PutEntry.
-/
import Derived.Test.YtbdbhdgfifojoaaGreatIteS
namespace Go.Proofs.YtbdbhdgfifojoaaGreat
open Go.RowKit Go.Maps
set_option linter.unusedVariables false
attribute [local go_sem ↓] Go.wp_at_zero Go.wp_at_succ

/-- What stays of a layer, as the program asks. -/
def baseP (es : List En) (e : En) : List En := es.filter fun x => !oustsE e x
theorem baseP_in {es : List En} {e x : En} {k : Nat} (he : es[k]? = some x) (h : oustsE e x = false) : baseP (es.take (k + 1)) e = baseP (es.take k) e ++ [x] := by
  rw [take_snoc_at he]; simp [baseP, h]
theorem baseP_out {es : List En} {e x : En} {k : Nat} (he : es[k]? = some x) (h : oustsE e x = true) : baseP (es.take (k + 1)) e = baseP (es.take k) e := by
  rw [take_snoc_at he]; simp [baseP, h]
theorem baseP_len (es : List En) (e : En) : (baseP es e).length ≤ es.length := List.length_filter_le _ _
theorem baseP_eq {es : List En} {e : En} (h : Right es) (he : entFault e = 0) : baseP es e = baseE es e := by
  refine List.filter_congr (fun x hx => ?_)
  exact ousts_keep (entFault_zero he) (entFault_zero (h.ent x hx))
theorem putE_len {es : List En} {e : En} : (putE es e).length = (baseE es e).length + 1 := by
  unfold putE putAt
  rw [List.length_append, List.length_cons, List.length_take, List.length_drop]
  omega
theorem LI.one {w : World} {e : En} {a : Option Addr} {c : Nat} (h : Reads .i64 w a e.chunks) : LI w (w.alloc (.cells #[.int .i64 e.size, .slice a e.chunks.length c, .string (str e.path), .int .i64 e.kind] 51)) (.slice (some ⟨w.heap.size, 0, none⟩) 1 1) [e] :=
  ⟨[⟨e, a, c⟩], rfl, ⟨rfl, .inr ⟨w.heap.size, 1, #[.int .i64 e.size, .slice a e.chunks.length c, .string (str e.path), .int .i64 e.kind], rfl, Nat.le_refl _, heap_alloc_new w _, Nat.le_refl _, by decide, rfl, rfl⟩⟩, fun r hr => by simp only [List.mem_singleton] at hr; subst hr; exact h⟩
theorem put_order {rs : List Rw} {e : En} {bs : List En} (h : rs.map Rw.e = e :: bs) : ∃ ss : List Rw, ss.Perm rs ∧ ss.map Rw.e = putAt bs e := by
  cases rs with
  | nil => simp at h
  | cons r rt =>
    simp only [List.map_cons, List.cons.injEq] at h
    obtain ⟨h1, h2⟩ := h
    refine ⟨rt.take (lowN bs e.path) ++ r :: rt.drop (lowN bs e.path), ?_, ?_⟩
    · refine List.perm_middle.trans ?_
      rw [List.take_append_drop]
    · rw [List.map_append, List.map_cons, List.map_take, List.map_drop, h1, h2]
      rfl
theorem sorted_rd {W0 wr w' : World} {g : Nat} {ss : List Rw} (hc : ∀ i q r, ss[i]? = some r → q < 4 → w'.cell? ⟨g, i * 4 + q, none⟩ = (cellsI r)[q]?) (hr : ∀ r ∈ ss, Reads .i64 W0 r.a r.e.chunks) (hb : Below W0.heap.size W0 wr) (hk : Kept (fun b => b = g) wr w') (hg : W0.heap.size ≤ g) (hgw : g < wr.heap.size) :
    RdI w' (some ⟨g, 0, none⟩) (ss.map Rw.e) := by
  intro _
  refine ⟨g, 0, fun i => (ss[i]?.map Rw.a).getD none, fun i => (ss[i]?.map Rw.c).getD 0, rfl, Nat.lt_of_lt_of_le hgw hk.size, fun i e hi => ?_⟩
  rw [List.getElem?_map] at hi
  cases hri : ss[i]? with
  | none => rw [hri] at hi; simp at hi
  | some r =>
    rw [hri] at hi
    simp only [Option.map_some, Option.some.injEq] at hi
    subst hi
    have c0 := hc i 0 r hri (by decide)
    have c1 := hc i 1 r hri (by decide)
    have c2 := hc i 2 r hri (by decide)
    have c3 := hc i 3 r hri (by decide)
    have hrr := hr r (List.mem_of_getElem? hri)
    simp only [hri, Option.map_some, Option.getD_some, Nat.zero_add]
    refine ⟨by simpa [cellsI] using c0, by simpa [cellsI] using c1, by simpa [cellsI] using c2, by simpa [cellsI] using c3, ?_⟩
    refine (hrr.below hb).kept hk (fun hz x hx e => ?_)
    obtain ⟨b, off, e1, hb1, _⟩ := hrr hz
    rw [e1] at hx
    cases hx
    simp only at e
    omega

set_option maxRecDepth 100000 in
set_option maxHeartbeats 6400000 in
theorem implPutEntry_any (a : Option Addr) (c n : Nat) (es : List En) (e : En) (x : Option Addr) (m cc : Nat) (w : World) (h : RdE w a es) (hn : n = es.length) (hl : es.length ≤ 1048576) (hs : SmallE es) (hm : m = e.chunks.length) (hr : Reads .i64 w x e.chunks) (hp : e.path.length ≤ 1048576) (hcl : e.chunks.length ≤ 1048576) :
    Calls Tryz.prog 6 #[.slice a n c, .agg #[.string (str e.path), .int .i64 e.kind, .int .i64 e.size, .slice x m cc]] w (ResE (putCodeP es e) (putListP es e) w) := by
  subst hn hm
  obtain ⟨i1, ki, kz0, kz1, kz2⟩ := info_parts Tryz.infoIt
  have F0 := hide ((Four.new w (.string (str e.path)) (.int .i64 e.kind) (.int .i64 e.size) (.slice x e.chunks.length cc) 27).below (below_alloc _ (.cells #[.int .i64 0, .slice none 0 0] 31)))
  have X0 := hide (Box.new (w.alloc (.cells #[.string (str e.path), .int .i64 e.kind, .int .i64 e.size, .slice x e.chunks.length cc] 27)) (.int .i64 0) (.slice none 0 0) 31)
  have h1 : (w.alloc (.cells #[.string (str e.path), .int .i64 e.kind, .int .i64 e.size, .slice x e.chunks.length cc] 27)).heap.size = w.heap.size + 1 := by simp
  rw [h1] at X0
  clear h1
  have B0 := hide (below_next (below_alloc w (.cells #[.string (str e.path), .int .i64 e.kind, .int .i64 e.size, .slice x e.chunks.length cc] 27)) (below_alloc _ (.cells #[.int .i64 0, .slice none 0 0] 31)))
  have HR := hide h
  have HS := hide hs
  have HRx := hide hr
  clear h hs hr
  go_enter Tryz.func6, Tryz.ntmps6
  go_wp2_with fail
  generalize (w.alloc (.cells #[.string (str e.path), .int .i64 e.kind, .int .i64 e.size, .slice x e.chunks.length cc] 27)).alloc (.cells #[.int .i64 0, .slice none 0 0] 31) = W0 at *
  obtain ⟨be, hbe⟩ : ∃ be, be = w.heap.size := ⟨_, rfl⟩
  rw [← hbe] at F0 X0 ⊢
  have HBE := hide hbe
  clear hbe
  refine (implLayerFault_any a c es.length es _ (HR.out.below B0.out) rfl hl HS.out).mono ?_
  rintro r w1 ⟨rfl, hb1⟩
  have B1 := hide (below_next B0.out hb1)
  have X1 := hide (X0.out.below hb1)
  have F1 := hide (F0.out.below hb1)
  clear hb1 X0 B0 F0
  by_cases hz : layFaultP es = 0
  · have HRi := hide (right_P.1 hz)
    rw [hz]
    obtain ⟨f0, f1, f2, f3⟩ := F1.out
    go_wp2_with fail
    refine (implEntryFault_any e _ _ _ _ (HRx.out.below B1.out) rfl hp hcl).mono ?_
    rintro r w2 ⟨rfl, hb2⟩
    have B2 := hide (below_next B1.out hb2)
    have X2 := hide (X1.out.below hb2)
    have F2 := hide (F1.out.below hb2)
    clear hb2 X1 B1 F1 f0 f1 f2 f3
    by_cases hz2 : entFault e = 0
    · rw [hz2]
      obtain ⟨f0, f1, f2, f3⟩ := F2.out
      go_wp2_with fail
      refine (parentFault_any a c es.length es e.path _ (HR.out.below B2.out) rfl hl (entFault_zero hz2) hp).mono ?_
      rintro r w3 ⟨rfl, hb3⟩
      have B3 := hide (below_next B2.out hb3)
      have X3 := hide (X2.out.below hb3)
      have F3 := hide (F2.out.below hb3)
      clear hb3 X2 B2 F2 f0 f1 f2 f3
      cases hz3 : homeP es e.path
      · have HCC := hide (show putCodeP es e = 9 ∧ putListP es e = [] from by
          have h0 : putCodeP es e = 9 := by rw [putCodeP, if_pos hz, if_pos hz2, hz3]; rfl
          exact ⟨h0, by rw [putListP, if_neg (by rw [h0]; decide)]⟩)
        clear hz hz2 hz3
        obtain ⟨⟨t0, t1⟩, t2, t3⟩ := X3.out
        go_wp2_with fail
        exact bodyPost_ret (v := .agg #[.int .i64 9, .slice none 0 0]) (by simp [results, Tryz.results6, go_sem, t0, t1]) rfl (by rw [HCC.out.1, HCC.out.2]; exact ResE.bad (by have := HBE.out; omega) B3.out)
      · have HC := hide (show putCodeP es e = if 12 < (putE es e).length then 2 else 0 from by rw [putCodeP, if_pos hz, if_pos hz2, hz3]; rfl)
        have HBP := hide (baseP_eq HRi.out hz2)
        clear hz hz2 hz3
        obtain ⟨f0, f1, f2, f3⟩ := F3.out
        go_wp2_with fail
        refine (itemOf_any _ _ _ _ _ _ _).mono ?_
        rintro r w4 ⟨rfl, hb4⟩
        have P4 := hide (Four.new w4 (.int .i64 e.size) (.slice x e.chunks.length cc) (.string (str e.path)) (.int .i64 e.kind) 51)
        have B4 := hide (below_next (below_next B3.out hb4) (below_alloc w4 (.cells #[.int .i64 e.size, .slice x e.chunks.length cc, .string (str e.path), .int .i64 e.kind] 51)))
        have X4 := hide ((X3.out.below hb4).below (below_alloc w4 (.cells #[.int .i64 e.size, .slice x e.chunks.length cc, .string (str e.path), .int .i64 e.kind] 51)))
        clear hb4 X3 B3 F3 f0 f1 f2 f3
        have hsz4 : (w4.alloc (.cells #[.int .i64 e.size, .slice x e.chunks.length cc, .string (str e.path), .int .i64 e.kind] 51)).heap.size = w4.heap.size + 1 := by simp
        go_wp2_with fail
        generalize w4.alloc (.cells #[.int .i64 e.size, .slice x e.chunks.length cc, .string (str e.path), .int .i64 e.kind] 51) = W4 at *
        have L5 := hide (LI.one (w := W4) (e := e) (a := x) (c := cc) (HRx.out.below B4.out))
        have B5 := hide (below_alloc W4 (.cells #[.int .i64 e.size, .slice x e.chunks.length cc, .string (str e.path), .int .i64 e.kind] 51))
        rw [hsz4] at L5
        have HSZ := hide hsz4
        clear hsz4
        have HR4 := hide (HR.out.below B4.out)
        have hb4 : w4.heap.size < W4.heap.size := P4.out.lt
        generalize w4.heap.size = b4 at *
        go_loopw [9, 39] (fun v i wr => ∃ k : Nat, k ≤ es.length ∧ i = .int .i64 k ∧ Hid (LI W4 wr v (e :: baseP (es.take k) e)) ∧ Hid (Below W4.heap.size W4 wr)) (fun _ i _ => es.length - (intOf i).toNat)
        case atStart => exact ⟨0, Nat.zero_le _, rfl, hide (by simpa [baseP] using L5.out), B5⟩
        case round =>
          obtain ⟨k, hk, rfl, HL, HW⟩ := hrel
          have hsz := HW.out.size
          obtain ⟨lv, lc, hv⟩ := HL.out.shape
          obtain ⟨L, hL⟩ : ∃ L, L = (e :: baseP (es.take k) e).length := ⟨_, rfl⟩
          rw [← hL] at hv
          subst hv
          have hL2 : L ≤ 1048577 := by
            have hrl := baseP_len (es.take k) e
            rw [List.length_take] at hrl
            rw [hL, List.length_cons]; omega
          have HLn := hide hL
          clear hL
          by_cases hlt : k < es.length
          · obtain ⟨b, off, y, xx, cy, rfl, hb, he, c0, c1, c2, c3, hr⟩ := (HR4.out.below HW.out).at hlt
            obtain ⟨b', off', y', xx', cy', hbb, hb', he', d0, d1, d2, d3, hr'⟩ := HR4.out.at hlt
            simp only [Option.some.injEq, Addr.mk.injEq, and_true] at hbb
            obtain ⟨rfl, rfl⟩ := hbb
            have : y' = y := Option.some.inj (he'.symm.trans he)
            subst this
            have d3' := (HW.out.cell (p := ⟨b, off + k * 4 + 3, none⟩) hb').trans d3
            rw [c3] at d3'
            simp only [Option.some.injEq, Value.slice.injEq, true_and] at d3'
            obtain ⟨rfl, rfl⟩ := d3'
            have hsm := HS.out y' (List.mem_of_getElem? he)
            have HX := hide he
            have HRc := hide hr'
            clear he hr hr' he' d0 d1 d2 d3
            have BA := hide (below_alloc wr (.cells #[.string (str y'.path), .int .i64 y'.kind, .int .i64 y'.size, .slice xx y'.chunks.length cy] 27))
            go_wp2_with fail
            refine (itemOf_any _ _ _ _ _ _ _).mono ?_
            rintro r w5 ⟨rfl, hb5⟩
            have F5 := hide (Four.new w5 (.int .i64 y'.size) (.slice xx y'.chunks.length cy) (.string (str y'.path)) (.int .i64 y'.kind) 51)
            have BB5 := hide (below_next (below_next BA.out hb5) (below_alloc w5 (.cells #[.int .i64 y'.size, .slice xx y'.chunks.length cy, .string (str y'.path), .int .i64 y'.kind] 51)))
            obtain ⟨p0, p1, p2, p3⟩ := P4.out.below (below_next HW.out BB5.out)
            clear hb5 c0 c1 c2 c3 BA
            go_wp2_with fail
            generalize w5.alloc (.cells #[.int .i64 y'.size, .slice xx y'.chunks.length cy, .string (str y'.path), .int .i64 y'.kind] 51) = W5 at *
            generalize w5.heap.size = b5 at *
            obtain ⟨f0, f1, f2, f3⟩ := F5.out
            go_wp2_with fail
            refine (ousts_any e y' _ _ _ _ _ _ _ hsm.1).mono ?_
            rintro r w6 ⟨rfl, hb6⟩
            have BB6 := hide (below_next BB5.out hb6)
            have F6 := F5.out.below hb6
            clear hb6 F5 BB5 p0 p1 p2 p3 f0 f1 f2 f3
            obtain ⟨f0, f1, f2, f3⟩ := F6
            cases hq : oustsE e y'
            · have HN := hide (baseP_in HX.out hq)
              clear hq
              obtain ⟨rs, g1, g2, g3⟩ := HL.out
              have G1 := hide g1
              have G2 := hide (ownsRow_below g2 BB6.out)
              have G3 := hide g3
              clear g1 g2 g3
              rw [← HLn.out] at G2
              have hm1 : L + 1 ≤ maxLen := by unfold maxLen; omega
              have hm1' : (L + 1) * 56 ≤ 140737488355328 := by omega
              have hsz6 := BB6.out.size
              go_wp2_with (at_builtin; refine wpList_append_put rfl (.tmp 49) (.tmp 51) 53 rfl W4.heap.size 51 i1 (.agg #[.int .i64 0, .slice none 0 0, .string ⟨#[]⟩, .int .i64 0]) 4 56 Tryz.underlying53 ki kz0 kz1 kz2 rfl (by decide) _ _ _ rfl G2.out _ rfl rfl rfl (by intro u hu; simp at hu; rcases hu with rfl | rfl | rfl | rfl <;> rfl) hm1 hm1' (by omega) ?_; intro av7 cv7 w7 hown7 hk7; have O7 := hide hown7; have K7 := hide hk7; clear hown7 hk7)
              go_roundw
              case rel =>
                refine ⟨k + 1, by omega, by go_num, hide ?_, hide ?_⟩
                · rw [HN.out]
                  exact LI.push (es := e :: baseP (es.take k) e) (e := y') (a := xx) (c := cy) G1.out HLn.out G3.out HRc.out O7.out
                · exact (below_next HW.out BB6.out).trans (K7.out.below (by omega) (fun q hq hS => by have := (G2.out.lt q hS).1; omega))
              case measure => simp [intOf]; omega
            · have HN := hide (baseP_out HX.out hq)
              clear hq
              go_wp2_with fail
              go_roundw
              case rel => exact ⟨k + 1, by omega, by go_num, hide (by rw [HN.out]; exact HL.out.below BB6.out), hide (below_next HW.out BB6.out)⟩
              case measure => simp [intOf]; omega
          · have HE := hide (show es.take k = es from List.take_of_length_le (by omega))
            obtain ⟨rs, g1, g2, g3⟩ := HL.out
            rw [HE.out, HBP.out] at g1
            rw [← HLn.out] at g2
            have HN := hide (show L = (putE es e).length from by rw [HLn.out, HE.out, HBP.out, putE_len, List.length_cons])
            have G1 := hide g1
            have G2 := hide g2
            have G3 := hide g3
            clear g1 g2 g3 HE HL
            obtain ⟨⟨t0, t1⟩, t2, t3⟩ := X4.out.below HW.out
            have hPos : 0 < L := by rw [HN.out, putE_len]; omega
            by_cases h12 : 12 < L
            · have HCC := hide (show putCodeP es e = 2 ∧ putListP es e = [] from by
                have h0 : putCodeP es e = 2 := by rw [HC.out, if_pos (by rw [← HN.out]; exact h12)]
                exact ⟨h0, by rw [putListP, if_neg (by rw [h0]; decide)]⟩)
              have h12' : (12 : Int) < (L : Int) := by omega
              go_wp2_with fail
              exact bodyPost_ret (v := .agg #[.int .i64 2, .slice none 0 0]) (by simp [results, Tryz.results6, go_sem, t0, t1]) rfl (by rw [HCC.out.1, HCC.out.2]; exact ResE.bad (by have := HBE.out; omega) (below_next B4.out HW.out))
            · have HCC := hide (show putCodeP es e = 0 ∧ putListP es e = putE es e from by
                have h0 : putCodeP es e = 0 := by rw [HC.out, if_neg (by rw [← HN.out]; exact h12)]
                exact ⟨h0, by rw [putListP, if_pos h0]⟩)
              have h12' : ¬ (12 : Int) < (L : Int) := by omega
              obtain ⟨g, hgv, -⟩ := row_addr G2.out (.inl hPos)
              subst hgv
              obtain ⟨ss, hperm, hmap⟩ := put_order G1.out
              have hmap' : ss.map Rw.e = putE es e := hmap
              have hrise : ss.Pairwise (fun x y => Op.bytesLess x.e.path y.e.path = true) := by
                have := rise_putE (e := e) HRi.out.rise
                rw [← hmap'] at this
                exact List.pairwise_map.1 this
              have HSO := hide (sortItems_any W4.heap.size g L lc rs ss wr G2.out (by rw [← List.length_map (f := Rw.e), G1.out, HN.out, putE_len, List.length_cons]) (by omega) hperm hrise)
              have HSR := hide (fun w' hc hk => sorted_rd (W0 := W4) (wr := wr) (w' := w') (g := g) (ss := ss) hc (fun r hr => G3.out r (hperm.subset hr)) HW.out hk ((G2.out.lt g rfl).1) ((G2.out.lt g rfl).2))
              rw [hmap'] at HSR
              have hgl := G2.out.lt g rfl
              clear hperm hmap hmap' hrise
              go_wp2_with fail
              refine HSO.out.mono ?_
              rintro r w8 ⟨rfl, hc8, hk8⟩
              have RI := hide (HSR.out w8 hc8 hk8)
              have B8 := hide (below_next B4.out (HW.out.trans (hk8.below hsz (fun q hq hS => by have : q = g := hS; omega))))
              have X8 := hide ((X4.out.below HW.out).kept hk8 (fun e => by have := X4.out.1.lt; omega))
              have hs8 := hk8.size
              have hlt8 := X4.out.1.lt
              clear hc8 hk8 HSO HSR t0 t1 t2 t3
              go_wp2_with fail
              refine (entriesOf_any _ _ L (putE es e) _ RI.out HN.out (by rw [← HN.out]; omega) (fun z hz => by
                rcases mem_putE.1 hz with rfl | ⟨hz, _⟩
                · exact ⟨hp, hcl⟩
                · exact HS.out z hz)).mono ?_
              rintro r w9 ⟨av9, cv9, rfl, hG9, hb9⟩
              obtain ⟨⟨t0, t1⟩, t2, t3⟩ := X8.out.below hb9
              have G9 := hide hG9
              have B9 := hide (below_next B8.out hb9)
              clear hG9 hb9
              go_wp2_with fail
              exact bodyPost_ret (v := .agg #[.int .i64 0, .slice av9 L cv9]) (by simp [results, Tryz.results6, go_sem, t0, t1]) rfl (by rw [HCC.out.1, HCC.out.2]; exact ResE.of (w2 := w) (by omega) (by have := HBE.out; omega) HN.out G9.out B9.out)
    · have HCC := hide (show putCodeP es e = entFault e ∧ putListP es e = [] from by
        have h0 : putCodeP es e = entFault e := by rw [putCodeP, if_pos hz, if_neg hz2]
        exact ⟨h0, by rw [putListP, if_neg (by rw [h0]; exact hz2)]⟩)
      clear hz
      generalize entFault e = F at *
      have hz3 : (F != 0) = true := by simp; exact hz2
      clear hz2
      obtain ⟨⟨t0, t1⟩, t2, t3⟩ := X2.out
      go_wp2_with fail
      exact bodyPost_ret (v := .agg #[.int .i64 F, .slice none 0 0]) (by simp [results, Tryz.results6, go_sem, t0, t1]) rfl (by rw [HCC.out.1, HCC.out.2]; exact ResE.bad (by have := HBE.out; omega) B2.out)
  · have HCC := hide (show putCodeP es e = layFaultP es ∧ putListP es e = [] from by
      have h0 : putCodeP es e = layFaultP es := by rw [putCodeP, if_neg hz]
      exact ⟨h0, by rw [putListP, if_neg (by rw [h0]; exact hz)]⟩)
    generalize layFaultP es = F at *
    have hz2 : (F != 0) = true := by simp; exact hz
    clear hz
    obtain ⟨⟨t0, t1⟩, t2, t3⟩ := X1.out
    go_wp2_with fail
    exact bodyPost_ret (v := .agg #[.int .i64 F, .slice none 0 0]) (by simp [results, Tryz.results6, go_sem, t0, t1]) rfl (by rw [HCC.out.1, HCC.out.2]; exact ResE.bad (by have := HBE.out; omega) B1.out)

end Go.Proofs.YtbdbhdgfifojoaaGreat
