/-
  Texts put together: IteP OvrJ MntC.
-/
import Derived.Test.YteegkblkfdnfiaaGreatKTold10
import Derived.Test.YteegkblkfdnfiaaGreatKTold1
import Derived.Test.YteegkblkfdnfiaaGreatKTold3
import Derived.Test.YteegkblkfdnfiaaGreatKTold9
import Derived.ProofKit
import Derived.Deep.DrawnRows
import Derived.Deep.RegionHeld3
import Derived.Deep.RegionLaw
import Derived.Test.YteegkblkfdnfiaaGreatKTold6
import Derived.Test.YteegkblkfdnfiaaGreatKTold8
namespace Go.Proofs.YteegkblkfdnfiaaGreat
open Go.RowKit Go.Maps
set_option linter.unusedVariables false
attribute [local go_sem ↓] Go.wp_at_zero Go.wp_at_succ

def baseP (es : List En) (e : En) : List En := es.filter fun x => !oustsE e x
theorem baseP_in {es : List En} {e x : En} {k : Nat} (he : es[k]? = some x) (h : oustsE e x = false) : baseP (es.take (k + 1)) e = baseP (es.take k) e ++ [x] := by
  rw [take_snoc_at he]; simp [baseP, h]
theorem baseP_out {es : List En} {e x : En} {k : Nat} (he : es[k]? = some x) (h : oustsE e x = true) : baseP (es.take (k + 1)) e = baseP (es.take k) e := by
  rw [take_snoc_at he]; simp [baseP, h]
theorem baseP_len (es : List En) (e : En) : (baseP es e).length ≤ es.length := List.length_filter_le _ _
theorem baseP_eq {es : List En} {e : En} (h : Right es) (he : entFault e = 0) : baseP es e = baseE es e := by
  refine List.filter_congr (fun x hx => ?_)
  exact ousts_keep (entFault_zero he) (entFault_zero (h.ent x hx))
theorem putE_len {es : List En} {e : En} : (putE es e).length = (baseE es e).length + 1 := by
  unfold putE putAt
  rw [List.length_append, List.length_cons, List.length_take, List.length_drop]
  omega
theorem LI.one {w : World} {e : En} {a : Option Addr} {c : Nat} (h : Reads .i64 w a e.chunks) : LI w (w.alloc (.cells #[.int .i64 e.size, .slice a e.chunks.length c, .string (str e.path), .int .i64 e.kind] 93)) (.slice (some ⟨w.heap.size, 0, none⟩) 1 1) [e] :=
  ⟨[⟨e, a, c⟩], rfl, ⟨rfl, .inr ⟨w.heap.size, 1, #[.int .i64 e.size, .slice a e.chunks.length c, .string (str e.path), .int .i64 e.kind], rfl, Nat.le_refl _, heap_alloc_new w _, Nat.le_refl _, by decide, rfl, rfl⟩⟩, fun r hr => by simp only [List.mem_singleton] at hr; subst hr; exact h⟩
theorem put_order {rs : List Rw} {e : En} {bs : List En} (h : rs.map Rw.e = e :: bs) : ∃ ss : List Rw, ss.Perm rs ∧ ss.map Rw.e = putAt bs e := by
  cases rs with
  | nil => simp at h
  | cons r rt =>
    simp only [List.map_cons, List.cons.injEq] at h
    obtain ⟨h1, h2⟩ := h
    refine ⟨rt.take (lowN bs e.path) ++ r :: rt.drop (lowN bs e.path), ?_, ?_⟩
    · refine List.perm_middle.trans ?_
      rw [List.take_append_drop]
    · rw [List.map_append, List.map_cons, List.map_take, List.map_drop, h1, h2]
      rfl
theorem sorted_rd {W0 wr w' : World} {g : Nat} {ss : List Rw} (hc : ∀ i q r, ss[i]? = some r → q < 4 → w'.cell? ⟨g, i * 4 + q, none⟩ = (cellsI r)[q]?) (hr : ∀ r ∈ ss, Reads .i64 W0 r.a r.e.chunks) (hb : Below W0.heap.size W0 wr) (hk : Kept (fun b => b = g) wr w') (hg : W0.heap.size ≤ g) (hgw : g < wr.heap.size) :
    RdI w' (some ⟨g, 0, none⟩) (ss.map Rw.e) := by
  intro _
  refine ⟨g, 0, fun i => (ss[i]?.map Rw.a).getD none, fun i => (ss[i]?.map Rw.c).getD 0, rfl, Nat.lt_of_lt_of_le hgw hk.size, fun i e hi => ?_⟩
  rw [List.getElem?_map] at hi
  cases hri : ss[i]? with
  | none => rw [hri] at hi; simp at hi
  | some r =>
    rw [hri] at hi
    simp only [Option.map_some, Option.some.injEq] at hi
    subst hi
    have c0 := hc i 0 r hri (by decide)
    have c1 := hc i 1 r hri (by decide)
    have c2 := hc i 2 r hri (by decide)
    have c3 := hc i 3 r hri (by decide)
    have hrr := hr r (List.mem_of_getElem? hri)
    simp only [hri, Option.map_some, Option.getD_some, Nat.zero_add]
    refine ⟨by simpa [cellsI] using c0, by simpa [cellsI] using c1, by simpa [cellsI] using c2, by simpa [cellsI] using c3, ?_⟩
    refine (hrr.below hb).kept hk (fun hz x hx e => ?_)
    obtain ⟨b, off, e1, hb1, _⟩ := hrr hz
    rw [e1] at hx
    cases hx
    simp only at e
    omega

set_option maxRecDepth 100000 in
set_option maxHeartbeats 6400000 in
theorem implPutEntry_any (a : Option Addr) (c n : Nat) (es : List En) (e : En) (x : Option Addr) (m cc : Nat) (w : World) (h : RdE w a es) (hn : n = es.length) (hl : es.length ≤ 1048576) (hs : SmallE es) (hm : m = e.chunks.length) (hr : Reads .i64 w x e.chunks) (hp : e.path.length ≤ 1048576) (hcl : e.chunks.length ≤ 1048576) :
    Calls Tryz.prog 204 #[.slice a n c, .agg #[.string (str e.path), .int .i64 e.kind, .int .i64 e.size, .slice x m cc]] w (ResE (putCodeP es e) (putListP es e) w) := by
  subst hn hm
  obtain ⟨i1, ki, kz0, kz1, kz2⟩ := info_parts Tryz.infoIt
  have F0 := hide ((Four.new w (.string (str e.path)) (.int .i64 e.kind) (.int .i64 e.size) (.slice x e.chunks.length cc) 50).below (below_alloc _ (.cells #[.int .i64 0, .slice none 0 0] 54)))
  have X0 := hide (Box.new (w.alloc (.cells #[.string (str e.path), .int .i64 e.kind, .int .i64 e.size, .slice x e.chunks.length cc] 50)) (.int .i64 0) (.slice none 0 0) 54)
  have h1 : (w.alloc (.cells #[.string (str e.path), .int .i64 e.kind, .int .i64 e.size, .slice x e.chunks.length cc] 50)).heap.size = w.heap.size + 1 := by simp
  rw [h1] at X0
  clear h1
  have B0 := hide (below_next (below_alloc w (.cells #[.string (str e.path), .int .i64 e.kind, .int .i64 e.size, .slice x e.chunks.length cc] 50)) (below_alloc _ (.cells #[.int .i64 0, .slice none 0 0] 54)))
  have HR := hide h
  have HS := hide hs
  have HRx := hide hr
  clear h hs hr
  go_enter Tryz.func204, Tryz.ntmps204
  go_wp2_with fail
  generalize (w.alloc (.cells #[.string (str e.path), .int .i64 e.kind, .int .i64 e.size, .slice x e.chunks.length cc] 50)).alloc (.cells #[.int .i64 0, .slice none 0 0] 54) = W0 at *
  obtain ⟨be, hbe⟩ : ∃ be, be = w.heap.size := ⟨_, rfl⟩
  rw [← hbe] at F0 X0 ⊢
  have HBE := hide hbe
  clear hbe
  refine (implLayerFault_any a c es.length es _ (HR.out.below B0.out) rfl hl HS.out).mono ?_
  rintro r w1 ⟨rfl, hb1⟩
  have B1 := hide (below_next B0.out hb1)
  have X1 := hide (X0.out.below hb1)
  have F1 := hide (F0.out.below hb1)
  clear hb1 X0 B0 F0
  by_cases hz : layFaultP es = 0
  · have HRi := hide (right_P.1 hz)
    rw [hz]
    obtain ⟨f0, f1, f2, f3⟩ := F1.out
    go_wp2_with fail
    refine (implEntryFault_any e _ _ _ _ (HRx.out.below B1.out) rfl hp hcl).mono ?_
    rintro r w2 ⟨rfl, hb2⟩
    have B2 := hide (below_next B1.out hb2)
    have X2 := hide (X1.out.below hb2)
    have F2 := hide (F1.out.below hb2)
    clear hb2 X1 B1 F1 f0 f1 f2 f3
    by_cases hz2 : entFault e = 0
    · rw [hz2]
      obtain ⟨f0, f1, f2, f3⟩ := F2.out
      go_wp2_with fail
      refine (parentFault_any a c es.length es e.path _ (HR.out.below B2.out) rfl hl (entFault_zero hz2) hp).mono ?_
      rintro r w3 ⟨rfl, hb3⟩
      have B3 := hide (below_next B2.out hb3)
      have X3 := hide (X2.out.below hb3)
      have F3 := hide (F2.out.below hb3)
      clear hb3 X2 B2 F2 f0 f1 f2 f3
      cases hz3 : homeP es e.path
      · have HCC := hide (show putCodeP es e = 9 ∧ putListP es e = [] from by
          have h0 : putCodeP es e = 9 := by rw [putCodeP, if_pos hz, if_pos hz2, hz3]; rfl
          exact ⟨h0, by rw [putListP, if_neg (by rw [h0]; decide)]⟩)
        clear hz hz2 hz3
        obtain ⟨⟨t0, t1⟩, t2, t3⟩ := X3.out
        go_wp2_with fail
        exact bodyPost_ret (v := .agg #[.int .i64 9, .slice none 0 0]) (by simp [results, Tryz.results204, go_sem, t0, t1]) rfl (by rw [HCC.out.1, HCC.out.2]; exact ResE.bad (by have := HBE.out; omega) B3.out)
      · have HC := hide (show putCodeP es e = if 12 < (putE es e).length then 2 else 0 from by rw [putCodeP, if_pos hz, if_pos hz2, hz3]; rfl)
        have HBP := hide (baseP_eq HRi.out hz2)
        clear hz hz2 hz3
        obtain ⟨f0, f1, f2, f3⟩ := F3.out
        go_wp2_with fail
        refine (itemOf_any _ _ _ _ _ _ _).mono ?_
        rintro r w4 ⟨rfl, hb4⟩
        have P4 := hide (Four.new w4 (.int .i64 e.size) (.slice x e.chunks.length cc) (.string (str e.path)) (.int .i64 e.kind) 93)
        have B4 := hide (below_next (below_next B3.out hb4) (below_alloc w4 (.cells #[.int .i64 e.size, .slice x e.chunks.length cc, .string (str e.path), .int .i64 e.kind] 93)))
        have X4 := hide ((X3.out.below hb4).below (below_alloc w4 (.cells #[.int .i64 e.size, .slice x e.chunks.length cc, .string (str e.path), .int .i64 e.kind] 93)))
        clear hb4 X3 B3 F3 f0 f1 f2 f3
        have hsz4 : (w4.alloc (.cells #[.int .i64 e.size, .slice x e.chunks.length cc, .string (str e.path), .int .i64 e.kind] 93)).heap.size = w4.heap.size + 1 := by simp
        go_wp2_with fail
        generalize w4.alloc (.cells #[.int .i64 e.size, .slice x e.chunks.length cc, .string (str e.path), .int .i64 e.kind] 93) = W4 at *
        have L5 := hide (LI.one (w := W4) (e := e) (a := x) (c := cc) (HRx.out.below B4.out))
        have B5 := hide (below_alloc W4 (.cells #[.int .i64 e.size, .slice x e.chunks.length cc, .string (str e.path), .int .i64 e.kind] 93))
        rw [hsz4] at L5
        have HSZ := hide hsz4
        clear hsz4
        have HR4 := hide (HR.out.below B4.out)
        have hb4 : w4.heap.size < W4.heap.size := P4.out.lt
        generalize w4.heap.size = b4 at *
        go_loopw [9, 39] (fun v i wr => ∃ k : Nat, k ≤ es.length ∧ i = .int .i64 k ∧ Hid (LI W4 wr v (e :: baseP (es.take k) e)) ∧ Hid (Below W4.heap.size W4 wr)) (fun _ i _ => es.length - (intOf i).toNat)
        case atStart => exact ⟨0, Nat.zero_le _, rfl, hide (by simpa [baseP] using L5.out), B5⟩
        case round =>
          obtain ⟨k, hk, rfl, HL, HW⟩ := hrel
          have hsz := HW.out.size
          obtain ⟨lv, lc, hv⟩ := HL.out.shape
          obtain ⟨L, hL⟩ : ∃ L, L = (e :: baseP (es.take k) e).length := ⟨_, rfl⟩
          rw [← hL] at hv
          subst hv
          have hL2 : L ≤ 1048577 := by
            have hrl := baseP_len (es.take k) e
            rw [List.length_take] at hrl
            rw [hL, List.length_cons]; omega
          have HLn := hide hL
          clear hL
          by_cases hlt : k < es.length
          · obtain ⟨b, off, y, xx, cy, rfl, hb, he, c0, c1, c2, c3, hr⟩ := (HR4.out.below HW.out).at hlt
            obtain ⟨b', off', y', xx', cy', hbb, hb', he', d0, d1, d2, d3, hr'⟩ := HR4.out.at hlt
            simp only [Option.some.injEq, Addr.mk.injEq, and_true] at hbb
            obtain ⟨rfl, rfl⟩ := hbb
            have : y' = y := Option.some.inj (he'.symm.trans he)
            subst this
            have d3' := (HW.out.cell (p := ⟨b, off + k * 4 + 3, none⟩) hb').trans d3
            rw [c3] at d3'
            simp only [Option.some.injEq, Value.slice.injEq, true_and] at d3'
            obtain ⟨rfl, rfl⟩ := d3'
            have hsm := HS.out y' (List.mem_of_getElem? he)
            have HX := hide he
            have HRc := hide hr'
            clear he hr hr' he' d0 d1 d2 d3
            have BA := hide (below_alloc wr (.cells #[.string (str y'.path), .int .i64 y'.kind, .int .i64 y'.size, .slice xx y'.chunks.length cy] 50))
            go_wp2_with fail
            refine (itemOf_any _ _ _ _ _ _ _).mono ?_
            rintro r w5 ⟨rfl, hb5⟩
            have F5 := hide (Four.new w5 (.int .i64 y'.size) (.slice xx y'.chunks.length cy) (.string (str y'.path)) (.int .i64 y'.kind) 93)
            have BB5 := hide (below_next (below_next BA.out hb5) (below_alloc w5 (.cells #[.int .i64 y'.size, .slice xx y'.chunks.length cy, .string (str y'.path), .int .i64 y'.kind] 93)))
            obtain ⟨p0, p1, p2, p3⟩ := P4.out.below (below_next HW.out BB5.out)
            clear hb5 c0 c1 c2 c3 BA
            go_wp2_with fail
            generalize w5.alloc (.cells #[.int .i64 y'.size, .slice xx y'.chunks.length cy, .string (str y'.path), .int .i64 y'.kind] 93) = W5 at *
            generalize w5.heap.size = b5 at *
            obtain ⟨f0, f1, f2, f3⟩ := F5.out
            go_wp2_with fail
            refine (ousts_any e y' _ _ _ _ _ _ _ hsm.1).mono ?_
            rintro r w6 ⟨rfl, hb6⟩
            have BB6 := hide (below_next BB5.out hb6)
            have F6 := F5.out.below hb6
            clear hb6 F5 BB5 p0 p1 p2 p3 f0 f1 f2 f3
            obtain ⟨f0, f1, f2, f3⟩ := F6
            cases hq : oustsE e y'
            · have HN := hide (baseP_in HX.out hq)
              clear hq
              obtain ⟨rs, g1, g2, g3⟩ := HL.out
              have G1 := hide g1
              have G2 := hide (ownsRow_below g2 BB6.out)
              have G3 := hide g3
              clear g1 g2 g3
              rw [← HLn.out] at G2
              have hm1 : L + 1 ≤ maxLen := by unfold maxLen; omega
              have hm1' : (L + 1) * 56 ≤ 140737488355328 := by omega
              have hsz6 := BB6.out.size
              go_wp2_with (at_builtin; refine wpList_append_put rfl (.tmp 49) (.tmp 51) 107 rfl W4.heap.size 93 i1 (.agg #[.int .i64 0, .slice none 0 0, .string ⟨#[]⟩, .int .i64 0]) 4 56 Tryz.underlying107 ki kz0 kz1 kz2 rfl (by decide) _ _ _ rfl G2.out _ rfl rfl rfl (by intro u hu; simp at hu; rcases hu with rfl | rfl | rfl | rfl <;> rfl) hm1 hm1' (by omega) ?_; intro av7 cv7 w7 hown7 hk7; have O7 := hide hown7; have K7 := hide hk7; clear hown7 hk7)
              go_roundw
              case rel =>
                refine ⟨k + 1, by omega, by go_num, hide ?_, hide ?_⟩
                · rw [HN.out]
                  exact LI.push (es := e :: baseP (es.take k) e) (e := y') (a := xx) (c := cy) G1.out HLn.out G3.out HRc.out O7.out
                · exact (below_next HW.out BB6.out).trans (K7.out.below (by omega) (fun q hq hS => by have := (G2.out.lt q hS).1; omega))
              case measure => simp [intOf]; omega
            · have HN := hide (baseP_out HX.out hq)
              clear hq
              go_wp2_with fail
              go_roundw
              case rel => exact ⟨k + 1, by omega, by go_num, hide (by rw [HN.out]; exact HL.out.below BB6.out), hide (below_next HW.out BB6.out)⟩
              case measure => simp [intOf]; omega
          · have HE := hide (show es.take k = es from List.take_of_length_le (by omega))
            obtain ⟨rs, g1, g2, g3⟩ := HL.out
            rw [HE.out, HBP.out] at g1
            rw [← HLn.out] at g2
            have HN := hide (show L = (putE es e).length from by rw [HLn.out, HE.out, HBP.out, putE_len, List.length_cons])
            have G1 := hide g1
            have G2 := hide g2
            have G3 := hide g3
            clear g1 g2 g3 HE HL
            obtain ⟨⟨t0, t1⟩, t2, t3⟩ := X4.out.below HW.out
            have hPos : 0 < L := by rw [HN.out, putE_len]; omega
            by_cases h12 : 12 < L
            · have HCC := hide (show putCodeP es e = 2 ∧ putListP es e = [] from by
                have h0 : putCodeP es e = 2 := by rw [HC.out, if_pos (by rw [← HN.out]; exact h12)]
                exact ⟨h0, by rw [putListP, if_neg (by rw [h0]; decide)]⟩)
              have h12' : (12 : Int) < (L : Int) := by omega
              go_wp2_with fail
              exact bodyPost_ret (v := .agg #[.int .i64 2, .slice none 0 0]) (by simp [results, Tryz.results204, go_sem, t0, t1]) rfl (by rw [HCC.out.1, HCC.out.2]; exact ResE.bad (by have := HBE.out; omega) (below_next B4.out HW.out))
            · have HCC := hide (show putCodeP es e = 0 ∧ putListP es e = putE es e from by
                have h0 : putCodeP es e = 0 := by rw [HC.out, if_neg (by rw [← HN.out]; exact h12)]
                exact ⟨h0, by rw [putListP, if_pos h0]⟩)
              have h12' : ¬ (12 : Int) < (L : Int) := by omega
              obtain ⟨g, hgv, -⟩ := row_addr G2.out (.inl hPos)
              subst hgv
              obtain ⟨ss, hperm, hmap⟩ := put_order G1.out
              have hmap' : ss.map Rw.e = putE es e := hmap
              have hrise : ss.Pairwise (fun x y => Op.bytesLess x.e.path y.e.path = true) := by
                have := rise_putE (e := e) HRi.out.rise
                rw [← hmap'] at this
                exact List.pairwise_map.1 this
              have HSO := hide (sortItems_any W4.heap.size g L lc rs ss wr G2.out (by rw [← List.length_map (f := Rw.e), G1.out, HN.out, putE_len, List.length_cons]) (by omega) hperm hrise)
              have HSR := hide (fun w' hc hk => sorted_rd (W0 := W4) (wr := wr) (w' := w') (g := g) (ss := ss) hc (fun r hr => G3.out r (hperm.subset hr)) HW.out hk ((G2.out.lt g rfl).1) ((G2.out.lt g rfl).2))
              rw [hmap'] at HSR
              have hgl := G2.out.lt g rfl
              clear hperm hmap hmap' hrise
              go_wp2_with fail
              refine HSO.out.mono ?_
              rintro r w8 ⟨rfl, hc8, hk8⟩
              have RI := hide (HSR.out w8 hc8 hk8)
              have B8 := hide (below_next B4.out (HW.out.trans (hk8.below hsz (fun q hq hS => by have : q = g := hS; omega))))
              have X8 := hide ((X4.out.below HW.out).kept hk8 (fun e => by have := X4.out.1.lt; omega))
              have hs8 := hk8.size
              have hlt8 := X4.out.1.lt
              clear hc8 hk8 HSO HSR t0 t1 t2 t3
              go_wp2_with fail
              refine (entriesOf_any _ _ L (putE es e) _ RI.out HN.out (by rw [← HN.out]; omega) (fun z hz => by
                rcases mem_putE.1 hz with rfl | ⟨hz, _⟩
                · exact ⟨hp, hcl⟩
                · exact HS.out z hz)).mono ?_
              rintro r w9 ⟨av9, cv9, rfl, hG9, hb9⟩
              obtain ⟨⟨t0, t1⟩, t2, t3⟩ := X8.out.below hb9
              have G9 := hide hG9
              have B9 := hide (below_next B8.out hb9)
              clear hG9 hb9
              go_wp2_with fail
              exact bodyPost_ret (v := .agg #[.int .i64 0, .slice av9 L cv9]) (by simp [results, Tryz.results204, go_sem, t0, t1]) rfl (by rw [HCC.out.1, HCC.out.2]; exact ResE.of (w2 := w) (by omega) (by have := HBE.out; omega) HN.out G9.out B9.out)
    · have HCC := hide (show putCodeP es e = entFault e ∧ putListP es e = [] from by
        have h0 : putCodeP es e = entFault e := by rw [putCodeP, if_pos hz, if_neg hz2]
        exact ⟨h0, by rw [putListP, if_neg (by rw [h0]; exact hz2)]⟩)
      clear hz
      generalize entFault e = F at *
      have hz3 : (F != 0) = true := by simp; exact hz2
      clear hz2
      obtain ⟨⟨t0, t1⟩, t2, t3⟩ := X2.out
      go_wp2_with fail
      exact bodyPost_ret (v := .agg #[.int .i64 F, .slice none 0 0]) (by simp [results, Tryz.results204, go_sem, t0, t1]) rfl (by rw [HCC.out.1, HCC.out.2]; exact ResE.bad (by have := HBE.out; omega) B2.out)
  · have HCC := hide (show putCodeP es e = layFaultP es ∧ putListP es e = [] from by
      have h0 : putCodeP es e = layFaultP es := by rw [putCodeP, if_neg hz]
      exact ⟨h0, by rw [putListP, if_neg (by rw [h0]; exact hz)]⟩)
    generalize layFaultP es = F at *
    have hz2 : (F != 0) = true := by simp; exact hz
    clear hz
    obtain ⟨⟨t0, t1⟩, t2, t3⟩ := X1.out
    go_wp2_with fail
    exact bodyPost_ret (v := .agg #[.int .i64 F, .slice none 0 0]) (by simp [results, Tryz.results204, go_sem, t0, t1]) rfl (by rw [HCC.out.1, HCC.out.2]; exact ResE.bad (by have := HBE.out; omega) B1.out)

end Go.Proofs.YteegkblkfdnfiaaGreat

namespace Go.Proofs.YteegkblkfdnfiaaGreat
set_option linter.unusedVariables false

theorem above_kid {c q : Bs} (hc : faultP c = 0) (hq : parentP c = q) : above c = if q = [] then [] else above q ++ [q] := by
  obtain ⟨ns, hN, hp, hcu, -⟩ := faultP_zero hc
  rw [above_good hc, hcu]
  have hpar : q = (aboveN ns).getLastD [] := by rw [← hq]; unfold parentP; rw [hcu]
  by_cases h0 : q = []
  · rw [if_pos h0]
    have := parentP_nil.1 (hq.trans h0)
    rw [hcu] at this
    exact this
  · rw [if_neg h0]
    have hl : 1 < ns.length := by
      refine Nat.lt_of_not_le (fun hle => h0 ?_)
      have h4 : aboveN ns = [] := List.eq_nil_of_length_eq_zero (by rw [aboveN_length]; omega)
      rw [hpar, h4]; rfl
    rw [parent_take hl] at hpar
    have hT : Names (ns.take (ns.length - 1)) := names_take hN (by omega)
    have hqf : faultP q = 0 := by rw [hpar]; exact faultP_of hT
    rw [above_good hqf]
    have hcq : cutB q.tail = ns.take (ns.length - 1) := by rw [hpar]; exact cut_of hT
    rw [hcq]
    unfold aboveN
    rw [List.length_take]
    obtain ⟨m, hm⟩ : ∃ m, ns.length = m + 2 := ⟨ns.length - 2, by omega⟩
    have e1 : min (ns.length - 1) ns.length - 1 = m := by omega
    have e2 : ns.length - 1 = m + 1 := by omega
    rw [e1, e2, List.range_succ, List.map_append]
    congr 1
    · refine List.map_congr_left fun k hk => ?_
      have := List.mem_range.1 hk
      rw [List.take_take, Nat.min_eq_left (by omega)]
    · simp [hpar, e2]
end Go.Proofs.YteegkblkfdnfiaaGreat

namespace Go.Proofs.YteegkblkfdnfiaaGreat
open Go.RowKit Go.Maps
set_option linter.unusedVariables false
attribute [local go_sem ↓] Go.wp_at_zero Go.wp_at_succ

def dirQ (q : Bs) : En := ⟨q, 2, 0, []⟩
def needsU (U : List En) (e : En) : Bool := !decide (parentP e.path = []) && (findE U (parentP e.path)).isNone
def filR : Nat → List En → En → Int × List En
  | 0, U, e => (putCodeP U e, putListP U e)
  | n + 1, U, e => if needsU U e = true then (if (filR n U (dirQ (parentP e.path))).1 = 0 then (putCodeP (filR n U (dirQ (parentP e.path))).2 e, putListP (filR n U (dirQ (parentP e.path))).2 e) else filR n U (dirQ (parentP e.path))) else (putCodeP U e, putListP U e)
theorem filR_none {n : Nat} {U : List En} {e : En} (h : needsU U e = false) : filR n U e = (putCodeP U e, putListP U e) := by
  cases n <;> simp [filR, h]
theorem filR_put {n : Nat} {U : List En} {e : En} (h : needsU U e = true) (h0 : (filR n U (dirQ (parentP e.path))).1 = 0) : filR (n + 1) U e = (putCodeP (filR n U (dirQ (parentP e.path))).2 e, putListP (filR n U (dirQ (parentP e.path))).2 e) := by simp [filR, h, h0]
theorem filR_bad {n : Nat} {U : List En} {e : En} (h : needsU U e = true) (h0 : (filR n U (dirQ (parentP e.path))).1 ≠ 0) : filR (n + 1) U e = filR n U (dirQ (parentP e.path)) := by simp [filR, h, h0]
theorem filR_zero : ∀ {n : Nat} {U : List En} {e : En}, (filR n U e).1 = 0 → Right (filR n U e).2 ∧ SmallE (filR n U e).2
  | 0, U, e, h => by
    have h1 := putP_zero (show putCodeP U e = 0 from h)
    have h2 : (filR 0 U e).2 = putE U e := by show putListP U e = _; rw [putListP, if_pos (show putCodeP U e = 0 from h)]
    rw [h2]
    exact ⟨h1.2.2.2.2, right_small h1.2.2.2.2⟩
  | n + 1, U, e, h => by
    have key : ∀ {L : List En}, putCodeP L e = 0 → Right (putListP L e) ∧ SmallE (putListP L e) := fun {L} hL => by
      have h1 := putP_zero hL
      rw [putListP, if_pos hL]
      exact ⟨h1.2.2.2.2, right_small h1.2.2.2.2⟩
    cases hn : needsU U e
    · rw [filR_none hn] at h ⊢
      exact key h
    · by_cases h0 : (filR n U (dirQ (parentP e.path))).1 = 0
      · rw [filR_put hn h0] at h ⊢
        exact key h
      · rw [filR_bad hn h0] at h
        exact absurd h h0

set_option maxRecDepth 100000 in
set_option maxHeartbeats 1600000 in
theorem fillLit_put (R b : Nat) (av : Option Addr) (n cv : Nat) (L : List En) (e : En) (x : Option Addr) (cc : Nat) (u : FrameMode) (w : World) (hX : Box w R (.int .i64 0) (.slice av n cv)) (hF : Four w b (.string (str e.path)) (.int .i64 e.kind) (.int .i64 e.size) (.slice x e.chunks.length cc))
    (h : RdE w av L) (hn : n = L.length) (hl : L.length ≤ 1048576) (hs : SmallE L) (hr : Reads .i64 w x e.chunks) (hp : e.path.length ≤ 1048576) (hcl : e.chunks.length ≤ 1048576) :
    CallsD Tryz.prog 203 #[.pointer (some ⟨R, 0, none⟩), .pointer (some ⟨b, 0, none⟩)] u w fun r u' w' => u' = u ∧ (r = .returned (.tuple #[]) ∧ ∃ w1 av1 cv1, Below w.heap.size w w1 ∧ GE w.heap.size w1.heap.size w1 (.slice av1 (putListP L e).length cv1) (putListP L e) ∧ w' = (w1.setCell ⟨R, 0, none⟩ (.int .i64 (putCodeP L e))).setCell ⟨R, 1, none⟩ (.slice av1 (putListP L e).length cv1)) := by
  subst hn
  have HP := hide (implPutEntry_any av cv L.length L e x e.chunks.length cc w h rfl hl hs rfl hr hp hcl)
  have HX := hide hX
  obtain ⟨⟨t0, t1⟩, t2, t3⟩ := hX
  obtain ⟨f0, f1, f2, f3⟩ := hF
  clear h hs hr
  go_enter_d Tryz.func203, Tryz.ntmps203
  go_wp2_with fail
  refine HP.out.mono ?_
  rintro r w1 ⟨av1, cv1, rfl, hG, hb1⟩
  have G1 := hide hG
  have B1 := hide hb1
  clear t0 t1 t2 t3 f0 f1 f2 f3
  obtain ⟨⟨t0, t1⟩, t2, t3⟩ := HX.out.below hb1
  clear hG hb1
  go_wp2_with fail
  exact ⟨rfl, .tuple #[], by simp [results, Tryz.results203], rfl, w1, av1, cv1, B1.out, G1.out, rfl⟩
set_option maxRecDepth 100000 in
set_option maxHeartbeats 1600000 in
theorem fillLit_skip (R b : Nat) (q : Int) (v : Value) (u : FrameMode) (w : World) (hX : Box w R (.int .i64 q) v) (hq : q ≠ 0) :
    CallsD Tryz.prog 203 #[.pointer (some ⟨R, 0, none⟩), .pointer (some ⟨b, 0, none⟩)] u w fun r u' w' => u' = u ∧ (r = .returned (.tuple #[]) ∧ w' = w) := by
  obtain ⟨⟨t0, t1⟩, t2, t3⟩ := hX
  have hq2 : (q == 0) = false := by simpa using hq
  clear hq
  go_enter_d Tryz.func203, Tryz.ntmps203
  go_wp2_with fail
  exact ⟨rfl, .tuple #[], by simp [results, Tryz.results203], rfl, rfl⟩
theorem ge_box {B T : Nat} {w : World} {b : Nat} {u v : Value} {av : Option Addr} {n cv : Nat} {L : List En} (h : GE B T w (.slice av n cv) L) (hb : b < B) : GE B T ((w.setCell ⟨b, 0, none⟩ u).setCell ⟨b, 1, none⟩ v) (.slice av n cv) L := h.kept (Kept.two w b 0 1 u v) (fun x hx _ e => by omega)
theorem parN {e : En} {n : Nat} (hp : faultP e.path = 0) (h0 : parentP e.path ≠ []) (hn : (above e.path).length = n + 1) : (above (parentP e.path)).length = n := by
  have h1 := above_kid hp rfl
  rw [if_neg h0] at h1
  rw [h1, List.length_append] at hn
  simpa using hn
theorem parU_none {e : En} (hp : faultP e.path = 0) (hn : (above e.path).length = 0) : parentP e.path = [] := by
  by_cases h0 : parentP e.path = []
  · exact h0
  · have h1 := above_kid hp rfl
    rw [if_neg h0] at h1
    rw [h1] at hn
    simp at hn
theorem four_kept {S : Nat → Prop} {w w' : World} {b : Nat} {u0 u1 u2 u3 : Value} (h : Four w b u0 u1 u2 u3) (hk : Kept S w w') (hn : ¬ S b) : Four w' b u0 u1 u2 u3 :=
  ⟨(hk.cell (p := ⟨b, 0, none⟩) h.lt hn).trans h.1, (hk.cell (p := ⟨b, 1, none⟩) h.lt hn).trans h.2.1, (hk.cell (p := ⟨b, 2, none⟩) h.lt hn).trans h.2.2.1, (hk.cell (p := ⟨b, 3, none⟩) h.lt hn).trans h.2.2.2⟩
theorem boxC_two {w : World} {B : Nat} {u v : Value} (h : Box w B u v) (u' v' : Value) : Box ((w.setCell ⟨B, 0, none⟩ u').setCell ⟨B, 1, none⟩ v') B u' v' := by
  obtain ⟨⟨m0, m1⟩, m2, m3⟩ := h
  refine ⟨⟨?_, ?_⟩, ?_, ?_⟩
  · rw [cell_set_other (by simp)]; exact cell_set_same m0
  · exact cell_set_same (u := v) (by rw [cell_set_other (by simp)]; exact m1)
  · rw [World.frozen?_setCell, World.frozen?_setCell]; exact m2
  · rw [World.frozen?_setCell, World.frozen?_setCell]; exact m3
set_option maxRecDepth 100000 in
set_option maxHeartbeats 3200000 in
theorem filledUp_top (a : Option Addr) (c : Nat) (U : List En) (hR : Right U) (e : En) (x : Option Addr) (cc : Nat) (w : World) (hp : faultP e.path = 0) (h : RdE w a U) (hx : Reads .i64 w x e.chunks) (hpl : e.path.length ≤ 1048576) (hcl : e.chunks.length ≤ 1048576) (h0 : parentP e.path = []) :
    Calls Tryz.prog 158 #[.slice a U.length c, .agg #[.string (str e.path), .int .i64 e.kind, .int .i64 e.size, .slice x e.chunks.length cc]] w (ResE (putCodeP U e) (putListP U e) w) := by
  have hmf : ∀ (fn : Fn) (first cap : Array Value) (w : World), (Instr.makeFunc fn first cap).run Tryz.prog w = .ok (.func fn first cap) w := fun _ _ _ _ => rfl
  have hsz := str_size e.path
  have HPO : Hid (∀ u : World, Calls Tryz.prog 187 #[.string (str e.path)] u fun r w' => r = .returned (.agg #[.int .i64 (parC e.path), .string (str (parT e.path))]) ∧ Below u.heap.size u w') := hide (fun u => by have h1 := implParentOf_any (str e.path) u (by omega); rw [str_data] at h1; exact h1)
  have hlU := hR.len
  have HSU := hide (right_small hR)
  have HR0 := hide h
  have HX0 := hide hx
  have B0 := hide (below_next (below_alloc w (.cells #[.string (str e.path), .int .i64 e.kind, .int .i64 e.size, .slice x e.chunks.length cc] 50)) (below_alloc (w.alloc (.cells #[.string (str e.path), .int .i64 e.kind, .int .i64 e.size, .slice x e.chunks.length cc] 50)) (.cells #[.int .i64 0, .slice none 0 0] 54)))
  have FE0 := hide ((Four.new w (.string (str e.path)) (.int .i64 e.kind) (.int .i64 e.size) (.slice x e.chunks.length cc) 50).below (below_alloc (w.alloc (.cells #[.string (str e.path), .int .i64 e.kind, .int .i64 e.size, .slice x e.chunks.length cc] 50)) (.cells #[.int .i64 0, .slice none 0 0] 54)))
  have BX0 := hide (Box.new (w.alloc (.cells #[.string (str e.path), .int .i64 e.kind, .int .i64 e.size, .slice x e.chunks.length cc] 50)) (.int .i64 0) (.slice none 0 0) 54)
  have hsA : (w.alloc (.cells #[.string (str e.path), .int .i64 e.kind, .int .i64 e.size, .slice x e.chunks.length cc] 50)).heap.size = w.heap.size + 1 := by simp
  rw [hsA] at BX0
  have hs0 : ((w.alloc (.cells #[.string (str e.path), .int .i64 e.kind, .int .i64 e.size, .slice x e.chunks.length cc] 50)).alloc (.cells #[.int .i64 0, .slice none 0 0] 54)).heap.size = w.heap.size + 2 := by simp
  clear h hx hsA
  rw [parC_right hp, if_pos h0] at HPO
  go_enter_defers Tryz.func158, Tryz.ntmps158
  obtain ⟨f0, f1, f2, f3⟩ := FE0.out
  go_wp2_with fail
  clear f0 f1 f2 f3
  generalize ((w.alloc (.cells #[.string (str e.path), .int .i64 e.kind, .int .i64 e.size, .slice x e.chunks.length cc] 50)).alloc (.cells #[.int .i64 0, .slice none 0 0] 54)) = W0 at *
  refine (HPO.out W0).mono ?_
  rintro r w1 ⟨rfl, hb1⟩
  generalize parT e.path = PT at *
  have A1 := hide (below_next hb1 (below_alloc w1 (.cells #[.int .i64 4, .string (str PT)] 203)))
  have T1 := hide (Box.new w1 (.int .i64 4) (.string (str PT)) 203)
  have BX1 := hide (BX0.out.below A1.out)
  have FE1 := hide (FE0.out.below A1.out)
  have B1 := hide (below_next B0.out A1.out)
  have hs1 := A1.out.size
  clear hb1 HPO
  obtain ⟨⟨s0, s1⟩, s2, s3⟩ := T1.out
  obtain ⟨⟨t0, t1⟩, t2, t3⟩ := BX1.out
  go_wp2_with fail
  clear s0 s1 s2 s3 t0 t1 t2 t3
  generalize w1.alloc (.cells #[.int .i64 4, .string (str PT)] 203) = W1 at *
  have BX2 := hide (boxC_two BX1.out (.int .i64 0) (.slice a U.length c))
  have hne : w.heap.size ≠ w.heap.size + 1 := by omega
  have KT : Hid (Kept (fun b => b = w.heap.size + 1) W1 ((W1.setCell ⟨w.heap.size + 1, 0, none⟩ (.int .i64 0)).setCell ⟨w.heap.size + 1, 1, none⟩ (.slice a U.length c))) := hide (Kept.two W1 (w.heap.size + 1) 0 1 _ _)
  have hzW : ((W1.setCell ⟨w.heap.size + 1, 0, none⟩ (.int .i64 0)).setCell ⟨w.heap.size + 1, 1, none⟩ (.slice a U.length c)).heap.size = W1.heap.size := by simp [World.setCell]
  have BW : Hid (Below w.heap.size w ((W1.setCell ⟨w.heap.size + 1, 0, none⟩ (.int .i64 0)).setCell ⟨w.heap.size + 1, 1, none⟩ (.slice a U.length c))) := hide ((B1.out.setCell (p := ⟨w.heap.size + 1, 0, none⟩) (by show w.heap.size ≤ w.heap.size + 1; omega) _).setCell (p := ⟨w.heap.size + 1, 1, none⟩) (by show w.heap.size ≤ w.heap.size + 1; omega) _)
  have FE2 := hide (four_kept FE1.out KT.out hne)
  refine leaves_cons (f := 203) (args := #[.pointer (some ⟨w.heap.size + 1, 0, none⟩), .pointer (some ⟨w.heap.size, 0, none⟩)]) (by simp) (by simp [go_sem]) ?_
  generalize (W1.setCell ⟨w.heap.size + 1, 0, none⟩ (.int .i64 0)).setCell ⟨w.heap.size + 1, 1, none⟩ (.slice a U.length c) = W2 at *
  refine (fillLit_put (w.heap.size + 1) w.heap.size a U.length c U e x cc .returning W2 BX2.out FE2.out (HR0.out.below BW.out) rfl (by omega) HSU.out (HX0.out.below BW.out) hpl hcl).mono ?_
  rintro r u' w' ⟨rfl, rfl, w3, av3, cv3, hb3, hG3, rfl⟩
  have BX3 := BX2.out.below hb3
  obtain ⟨⟨t0, t1⟩, t2, t3⟩ := BX3
  have HF := hide (ResE.of (q := putCodeP U e) (w2 := w) (u := .int .i64 (putCodeP U e)) (v := .slice av3 (putListP U e).length cv3) (show w.heap.size + 1 < W2.heap.size by omega) (by omega) rfl hG3 (below_next BW.out hb3))
  simp [Leaves, settle, results, Tryz.results158, go_sem, t0, t1]
  exact HF.out
set_option maxRecDepth 100000 in
set_option maxHeartbeats 3200000 in
theorem filledUp_in (a : Option Addr) (c : Nat) (U : List En) (hR : Right U) (e : En) (x : Option Addr) (cc : Nat) (w : World) (hp : faultP e.path = 0) (h : RdE w a U) (hx : Reads .i64 w x e.chunks) (hpl : e.path.length ≤ 1048576) (hcl : e.chunks.length ≤ 1048576) (h0 : parentP e.path ≠ []) (d : En) (hd : findE U (parentP e.path) = some d) :
    Calls Tryz.prog 158 #[.slice a U.length c, .agg #[.string (str e.path), .int .i64 e.kind, .int .i64 e.size, .slice x e.chunks.length cc]] w (ResE (putCodeP U e) (putListP U e) w) := by
  have hmf : ∀ (fn : Fn) (first cap : Array Value) (w : World), (Instr.makeFunc fn first cap).run Tryz.prog w = .ok (.func fn first cap) w := fun _ _ _ _ => rfl
  have hsz := str_size e.path
  have HPO : Hid (∀ u : World, Calls Tryz.prog 187 #[.string (str e.path)] u fun r w' => r = .returned (.agg #[.int .i64 (parC e.path), .string (str (parT e.path))]) ∧ Below u.heap.size u w') := hide (fun u => by have h1 := implParentOf_any (str e.path) u (by omega); rw [str_data] at h1; exact h1)
  have hlU := hR.len
  have HSU := hide (right_small hR)
  have HR0 := hide h
  have HX0 := hide hx
  have B0 := hide (below_next (below_alloc w (.cells #[.string (str e.path), .int .i64 e.kind, .int .i64 e.size, .slice x e.chunks.length cc] 50)) (below_alloc (w.alloc (.cells #[.string (str e.path), .int .i64 e.kind, .int .i64 e.size, .slice x e.chunks.length cc] 50)) (.cells #[.int .i64 0, .slice none 0 0] 54)))
  have FE0 := hide ((Four.new w (.string (str e.path)) (.int .i64 e.kind) (.int .i64 e.size) (.slice x e.chunks.length cc) 50).below (below_alloc (w.alloc (.cells #[.string (str e.path), .int .i64 e.kind, .int .i64 e.size, .slice x e.chunks.length cc] 50)) (.cells #[.int .i64 0, .slice none 0 0] 54)))
  have BX0 := hide (Box.new (w.alloc (.cells #[.string (str e.path), .int .i64 e.kind, .int .i64 e.size, .slice x e.chunks.length cc] 50)) (.int .i64 0) (.slice none 0 0) 54)
  have hsA : (w.alloc (.cells #[.string (str e.path), .int .i64 e.kind, .int .i64 e.size, .slice x e.chunks.length cc] 50)).heap.size = w.heap.size + 1 := by simp
  rw [hsA] at BX0
  have hs0 : ((w.alloc (.cells #[.string (str e.path), .int .i64 e.kind, .int .i64 e.size, .slice x e.chunks.length cc] 50)).alloc (.cells #[.int .i64 0, .slice none 0 0] 54)).heap.size = w.heap.size + 2 := by simp
  clear h hx hsA
  rw [parC_right hp, if_neg h0, parT_right hp] at HPO
  obtain ⟨hpp, hpb⟩ := parent_above hp h0
  have hppl : (parentP e.path).length ≤ 1048576 := by have := below_len hpb; omega
  have HEA0 := hide (fun u (hu : Below w.heap.size w u) => implEntryAt_any a c U.length U (parentP e.path) u (HR0.out.below hu) rfl (by omega) HSU.out hppl)
  rw [show findCodeP U (parentP e.path) = 0 by rw [findCodeP, if_pos (askP_of hR hpp), hd]; rfl] at HEA0
  have HEA : Hid (∀ u : World, Below w.heap.size w u → Calls Tryz.prog 159 #[.slice a U.length c, .string (str (parentP e.path))] u fun r w' => ∃ lv ln lc, r = .returned (.agg #[.int .i64 0, .slice lv ln lc]) ∧ Below u.heap.size u w') := hide (fun u hu => (HEA0.out u hu).mono (fun r w' ⟨lv, lc, h2, _, h4⟩ => ⟨lv, _, lc, h2, h4⟩))
  have hfl : ∀ (w : World) (F : Int) (v : Value), (Instr.field 54 (.agg #[.int .i64 F, v]) 0).run Tryz.prog w = .ok (.int .i64 F) w := fun _ _ _ => by kernel_rfl
  clear HEA0 hd hpp hpb
  go_enter_defers Tryz.func158, Tryz.ntmps158
  obtain ⟨f0, f1, f2, f3⟩ := FE0.out
  go_wp2_with fail
  clear f0 f1 f2 f3
  generalize ((w.alloc (.cells #[.string (str e.path), .int .i64 e.kind, .int .i64 e.size, .slice x e.chunks.length cc] 50)).alloc (.cells #[.int .i64 0, .slice none 0 0] 54)) = W0 at *
  refine (HPO.out W0).mono ?_
  rintro r w1 ⟨rfl, hb1⟩
  generalize parentP e.path = PT at *
  have A1 := hide (below_next hb1 (below_alloc w1 (.cells #[.int .i64 0, .string (str PT)] 203)))
  have T1 := hide (Box.new w1 (.int .i64 0) (.string (str PT)) 203)
  have BX1 := hide (BX0.out.below A1.out)
  have FE1 := hide (FE0.out.below A1.out)
  have B1 := hide (below_next B0.out A1.out)
  have hs1 := A1.out.size
  clear hb1 HPO
  obtain ⟨⟨s0, s1⟩, s2, s3⟩ := T1.out
  obtain ⟨⟨t0, t1⟩, t2, t3⟩ := BX1.out
  go_wp2_with fail
  clear s0 s1 s2 s3 t0 t1 t2 t3
  generalize w1.alloc (.cells #[.int .i64 0, .string (str PT)] 203) = V1 at *
  generalize w1.heap.size = bT at *
  refine (HEA.out V1 B1.out).mono ?_
  rintro r W1 ⟨lv, ln, lc, rfl, hbE⟩
  have BX1' := hide (BX1.out.below hbE)
  have FE1' := hide (FE1.out.below hbE)
  have B1' := hide (below_next B1.out hbE)
  have T1' := hide (T1.out.below hbE)
  have hsE := hbE.size
  clear BX1 FE1 B1 hbE T1
  have BX1 := BX1'
  have FE1 := FE1'
  have B1 := B1'
  have T1 := T1'
  clear BX1' FE1' B1' T1'
  obtain ⟨⟨s0, s1⟩, s2, s3⟩ := T1.out
  obtain ⟨⟨t0, t1⟩, t2, t3⟩ := BX1.out
  go_wp2_with fail
  clear s0 s1 s2 s3 t0 t1 t2 t3
  have BX2 := hide (boxC_two BX1.out (.int .i64 0) (.slice a U.length c))
  have hne : w.heap.size ≠ w.heap.size + 1 := by omega
  have KT : Hid (Kept (fun b => b = w.heap.size + 1) W1 ((W1.setCell ⟨w.heap.size + 1, 0, none⟩ (.int .i64 0)).setCell ⟨w.heap.size + 1, 1, none⟩ (.slice a U.length c))) := hide (Kept.two W1 (w.heap.size + 1) 0 1 _ _)
  have hzW : ((W1.setCell ⟨w.heap.size + 1, 0, none⟩ (.int .i64 0)).setCell ⟨w.heap.size + 1, 1, none⟩ (.slice a U.length c)).heap.size = W1.heap.size := by simp [World.setCell]
  have BW : Hid (Below w.heap.size w ((W1.setCell ⟨w.heap.size + 1, 0, none⟩ (.int .i64 0)).setCell ⟨w.heap.size + 1, 1, none⟩ (.slice a U.length c))) := hide ((B1.out.setCell (p := ⟨w.heap.size + 1, 0, none⟩) (by show w.heap.size ≤ w.heap.size + 1; omega) _).setCell (p := ⟨w.heap.size + 1, 1, none⟩) (by show w.heap.size ≤ w.heap.size + 1; omega) _)
  have FE2 := hide (four_kept FE1.out KT.out hne)
  refine leaves_cons (f := 203) (args := #[.pointer (some ⟨w.heap.size + 1, 0, none⟩), .pointer (some ⟨w.heap.size, 0, none⟩)]) (by simp) (by simp [go_sem]) ?_
  generalize (W1.setCell ⟨w.heap.size + 1, 0, none⟩ (.int .i64 0)).setCell ⟨w.heap.size + 1, 1, none⟩ (.slice a U.length c) = W2 at *
  refine (fillLit_put (w.heap.size + 1) w.heap.size a U.length c U e x cc .returning W2 BX2.out FE2.out (HR0.out.below BW.out) rfl (by omega) HSU.out (HX0.out.below BW.out) hpl hcl).mono ?_
  rintro r u' w' ⟨rfl, rfl, w3, av3, cv3, hb3, hG3, rfl⟩
  have BX3 := BX2.out.below hb3
  obtain ⟨⟨t0, t1⟩, t2, t3⟩ := BX3
  have HF := hide (ResE.of (q := putCodeP U e) (w2 := w) (u := .int .i64 (putCodeP U e)) (v := .slice av3 (putListP U e).length cv3) (show w.heap.size + 1 < W2.heap.size by omega) (by omega) rfl hG3 (below_next BW.out hb3))
  simp [Leaves, settle, results, Tryz.results158, go_sem, t0, t1]
  exact HF.out
set_option maxRecDepth 100000 in
set_option maxHeartbeats 3200000 in
theorem filledUp_rec (a : Option Addr) (c : Nat) (U : List En) (hR : Right U) (e : En) (x : Option Addr) (cc : Nat) (w : World) (hp : faultP e.path = 0) (h : RdE w a U) (hx : Reads .i64 w x e.chunks) (hpl : e.path.length ≤ 1048576) (hcl : e.chunks.length ≤ 1048576) (h0 : parentP e.path ≠ []) (hd : findE U (parentP e.path) = none) (q q' : Int) (L L' : List En) (hqq : (q = 0 → q' = putCodeP L e ∧ L' = putListP L e) ∧ (q ≠ 0 → q' = q ∧ L' = L)) (hL : q = 0 → Right L ∧ SmallE L) (hrec : ∀ u : World, Below w.heap.size w u → Calls Tryz.prog 158 #[.slice a U.length c, .agg #[.string (str (parentP e.path)), .int .i64 2, .int .i64 0, .slice none 0 0]] u (ResE q L u)) :
    Calls Tryz.prog 158 #[.slice a U.length c, .agg #[.string (str e.path), .int .i64 e.kind, .int .i64 e.size, .slice x e.chunks.length cc]] w (ResE q' L' w) := by
  have hmf : ∀ (fn : Fn) (first cap : Array Value) (w : World), (Instr.makeFunc fn first cap).run Tryz.prog w = .ok (.func fn first cap) w := fun _ _ _ _ => rfl
  have hsz := str_size e.path
  have HPO : Hid (∀ u : World, Calls Tryz.prog 187 #[.string (str e.path)] u fun r w' => r = .returned (.agg #[.int .i64 (parC e.path), .string (str (parT e.path))]) ∧ Below u.heap.size u w') := hide (fun u => by have h1 := implParentOf_any (str e.path) u (by omega); rw [str_data] at h1; exact h1)
  have hlU := hR.len
  have HSU := hide (right_small hR)
  have HR0 := hide h
  have HX0 := hide hx
  have B0 := hide (below_next (below_alloc w (.cells #[.string (str e.path), .int .i64 e.kind, .int .i64 e.size, .slice x e.chunks.length cc] 50)) (below_alloc (w.alloc (.cells #[.string (str e.path), .int .i64 e.kind, .int .i64 e.size, .slice x e.chunks.length cc] 50)) (.cells #[.int .i64 0, .slice none 0 0] 54)))
  have FE0 := hide ((Four.new w (.string (str e.path)) (.int .i64 e.kind) (.int .i64 e.size) (.slice x e.chunks.length cc) 50).below (below_alloc (w.alloc (.cells #[.string (str e.path), .int .i64 e.kind, .int .i64 e.size, .slice x e.chunks.length cc] 50)) (.cells #[.int .i64 0, .slice none 0 0] 54)))
  have BX0 := hide (Box.new (w.alloc (.cells #[.string (str e.path), .int .i64 e.kind, .int .i64 e.size, .slice x e.chunks.length cc] 50)) (.int .i64 0) (.slice none 0 0) 54)
  have hsA : (w.alloc (.cells #[.string (str e.path), .int .i64 e.kind, .int .i64 e.size, .slice x e.chunks.length cc] 50)).heap.size = w.heap.size + 1 := by simp
  rw [hsA] at BX0
  have hs0 : ((w.alloc (.cells #[.string (str e.path), .int .i64 e.kind, .int .i64 e.size, .slice x e.chunks.length cc] 50)).alloc (.cells #[.int .i64 0, .slice none 0 0] 54)).heap.size = w.heap.size + 2 := by simp
  clear h hx hsA
  rw [parC_right hp, if_neg h0, parT_right hp] at HPO
  obtain ⟨hpp, hpb⟩ := parent_above hp h0
  have hppl : (parentP e.path).length ≤ 1048576 := by have := below_len hpb; omega
  have HEA0 := hide (fun u (hu : Below w.heap.size w u) => implEntryAt_any a c U.length U (parentP e.path) u (HR0.out.below hu) rfl (by omega) HSU.out hppl)
  rw [show findCodeP U (parentP e.path) = 4 by rw [findCodeP, if_pos (askP_of hR hpp), hd]; rfl] at HEA0
  have HEA : Hid (∀ u : World, Below w.heap.size w u → Calls Tryz.prog 159 #[.slice a U.length c, .string (str (parentP e.path))] u fun r w' => ∃ lv ln lc, r = .returned (.agg #[.int .i64 4, .slice lv ln lc]) ∧ Below u.heap.size u w') := hide (fun u hu => (HEA0.out u hu).mono (fun r w' ⟨lv, lc, h2, _, h4⟩ => ⟨lv, _, lc, h2, h4⟩))
  have hfl : ∀ (w : World) (F : Int) (v : Value), (Instr.field 54 (.agg #[.int .i64 F, v]) 0).run Tryz.prog w = .ok (.int .i64 F) w := fun _ _ _ => by kernel_rfl
  have HREC := hide hrec
  have HLL := hide hL
  have HQQ := hide hqq
  clear HEA0 hd hpp hpb hrec hL hqq
  go_enter_defers Tryz.func158, Tryz.ntmps158
  obtain ⟨f0, f1, f2, f3⟩ := FE0.out
  go_wp2_with fail
  clear f0 f1 f2 f3
  generalize ((w.alloc (.cells #[.string (str e.path), .int .i64 e.kind, .int .i64 e.size, .slice x e.chunks.length cc] 50)).alloc (.cells #[.int .i64 0, .slice none 0 0] 54)) = W0 at *
  refine (HPO.out W0).mono ?_
  rintro r w1 ⟨rfl, hb1⟩
  generalize parentP e.path = PT at *
  have A1 := hide (below_next hb1 (below_alloc w1 (.cells #[.int .i64 0, .string (str PT)] 203)))
  have T1 := hide (Box.new w1 (.int .i64 0) (.string (str PT)) 203)
  have BX1 := hide (BX0.out.below A1.out)
  have FE1 := hide (FE0.out.below A1.out)
  have B1 := hide (below_next B0.out A1.out)
  have hs1 := A1.out.size
  clear hb1 HPO
  obtain ⟨⟨s0, s1⟩, s2, s3⟩ := T1.out
  obtain ⟨⟨t0, t1⟩, t2, t3⟩ := BX1.out
  go_wp2_with fail
  clear s0 s1 s2 s3 t0 t1 t2 t3
  generalize w1.alloc (.cells #[.int .i64 0, .string (str PT)] 203) = V1 at *
  generalize w1.heap.size = bT at *
  refine (HEA.out V1 B1.out).mono ?_
  rintro r W1 ⟨lv, ln, lc, rfl, hbE⟩
  have BX1' := hide (BX1.out.below hbE)
  have FE1' := hide (FE1.out.below hbE)
  have B1' := hide (below_next B1.out hbE)
  have T1' := hide (T1.out.below hbE)
  have hsE := hbE.size
  clear BX1 FE1 B1 hbE T1
  have BX1 := BX1'
  have FE1 := FE1'
  have B1 := B1'
  have T1 := T1'
  clear BX1' FE1' B1' T1'
  obtain ⟨⟨s0, s1⟩, s2, s3⟩ := T1.out
  obtain ⟨⟨t0, t1⟩, t2, t3⟩ := BX1.out
  go_wp2_with fail
  clear s0 s1 s2 s3 t0 t1 t2 t3
  refine (HREC.out W1 B1.out).mono ?_
  rintro r w4 ⟨av4, cv4, rfl, hG4, hb4⟩
  have BX4 := hide (BX1.out.below hb4)
  have FE4 := hide (FE1.out.below hb4)
  have B4 := hide (below_next B1.out hb4)
  have G4 := hide hG4
  have hs4 := hb4.size
  clear hG4 hb4 BX1 FE1 B1 T1
  obtain ⟨⟨t0, t1⟩, t2, t3⟩ := BX4.out
  generalize hN4 : L.length = N4 at *
  go_wp2_with fail
  clear t0 t1 t2 t3
  have BX5 := hide (boxC_two BX4.out (.int .i64 q) (.slice av4 N4 cv4))
  have hne : w.heap.size ≠ w.heap.size + 1 := by omega
  have KT : Hid (Kept (fun b => b = w.heap.size + 1) w4 ((w4.setCell ⟨w.heap.size + 1, 0, none⟩ (.int .i64 q)).setCell ⟨w.heap.size + 1, 1, none⟩ (.slice av4 N4 cv4))) := hide (Kept.two w4 (w.heap.size + 1) 0 1 _ _)
  have hzW : ((w4.setCell ⟨w.heap.size + 1, 0, none⟩ (.int .i64 q)).setCell ⟨w.heap.size + 1, 1, none⟩ (.slice av4 N4 cv4)).heap.size = w4.heap.size := by simp [World.setCell]
  have BW : Hid (Below w.heap.size w ((w4.setCell ⟨w.heap.size + 1, 0, none⟩ (.int .i64 q)).setCell ⟨w.heap.size + 1, 1, none⟩ (.slice av4 N4 cv4))) := hide ((B4.out.setCell (p := ⟨w.heap.size + 1, 0, none⟩) (by show w.heap.size ≤ w.heap.size + 1; omega) _).setCell (p := ⟨w.heap.size + 1, 1, none⟩) (by show w.heap.size ≤ w.heap.size + 1; omega) _)
  have FE5 := hide (four_kept FE4.out KT.out hne)
  have G5 := hide (ge_box (u := .int .i64 q) (v := .slice av4 N4 cv4) G4.out (show w.heap.size + 1 < W1.heap.size by omega))
  refine leaves_cons (f := 203) (args := #[.pointer (some ⟨w.heap.size + 1, 0, none⟩), .pointer (some ⟨w.heap.size, 0, none⟩)]) (by simp) (by simp [go_sem]) ?_
  generalize (w4.setCell ⟨w.heap.size + 1, 0, none⟩ (.int .i64 q)).setCell ⟨w.heap.size + 1, 1, none⟩ (.slice av4 N4 cv4) = W5 at *
  by_cases hq : q = 0
  · subst hq
    obtain ⟨hRL, hSL⟩ := HLL.out rfl
    have hL12 := hRL.len
    refine (fillLit_put (w.heap.size + 1) w.heap.size av4 N4 cv4 L e x cc .returning W5 BX5.out FE5.out G5.out.rd hN4.symm (by omega) hSL (HX0.out.below BW.out) hpl hcl).mono ?_
    rintro r u' w' ⟨rfl, rfl, w6, av6, cv6, hb6, hG6, rfl⟩
    have BX6 := BX5.out.below hb6
    obtain ⟨⟨t0, t1⟩, t2, t3⟩ := BX6
    have HF := hide (ResE.of (q := putCodeP L e) (w2 := w) (u := .int .i64 (putCodeP L e)) (v := .slice av6 (putListP L e).length cv6) (show w.heap.size + 1 < W5.heap.size by omega) (by omega) rfl hG6 (below_next BW.out hb6))
    obtain ⟨e1, e2⟩ := HQQ.out.1 rfl
    subst e1
    subst e2
    simp [Leaves, settle, results, Tryz.results158, go_sem, t0, t1]
    exact HF.out
  · refine (fillLit_skip (w.heap.size + 1) w.heap.size q _ .returning W5 BX5.out hq).mono ?_
    rintro r u' w' ⟨rfl, rfl, rfl⟩
    obtain ⟨⟨t0, t1⟩, t2, t3⟩ := BX5.out
    have HF : Hid (ResE q L w (.returned (.agg #[.int .i64 q, .slice av4 N4 cv4])) w') := hide ⟨av4, cv4, by rw [hN4], by rw [hN4]; exact (G5.out.mono (by omega)).wide (by omega), BW.out⟩
    obtain ⟨e1, e2⟩ := HQQ.out.2 hq
    subst e1
    subst e2
    simp [Leaves, settle, results, Tryz.results158, go_sem, t0, t1]
    exact HF.out
theorem filledUp_any (a : Option Addr) (c : Nat) (U : List En) (hR : Right U) : ∀ (n : Nat) (e : En) (x : Option Addr) (cc : Nat) (w : World), (above e.path).length = n → faultP e.path = 0 → RdE w a U → Reads .i64 w x e.chunks → e.path.length ≤ 1048576 → e.chunks.length ≤ 1048576 →
    Calls Tryz.prog 158 #[.slice a U.length c, .agg #[.string (str e.path), .int .i64 e.kind, .int .i64 e.size, .slice x e.chunks.length cc]] w (ResE (filR n U e).1 (filR n U e).2 w) := by
  intro n
  induction n with
  | zero =>
    intro e x cc w hn hp h hx hpl hcl
    exact filledUp_top a c U hR e x cc w hp h hx hpl hcl (parU_none hp hn)
  | succ n ih =>
    intro e x cc w hn hp h hx hpl hcl
    have h0 : parentP e.path ≠ [] := fun e0 => by
      have h1 := above_kid hp rfl
      rw [if_pos e0] at h1
      rw [h1] at hn
      simp at hn
    obtain ⟨hpp, hpb⟩ := parent_above hp h0
    cases hd : findE U (parentP e.path) with
    | some d =>
      have hnn : needsU U e = false := by simp [needsU, hd]
      rw [filR_none hnn]
      exact filledUp_in a c U hR e x cc w hp h hx hpl hcl h0 d hd
    | none =>
      have hnn : needsU U e = true := by simp [needsU, hd, h0]
      refine filledUp_rec a c U hR e x cc w hp h hx hpl hcl h0 hd (filR n U (dirQ (parentP e.path))).1 _ (filR n U (dirQ (parentP e.path))).2 _ ⟨fun hq => by rw [filR_put hnn hq]; exact ⟨rfl, rfl⟩, fun hq => by rw [filR_bad hnn hq]; exact ⟨rfl, rfl⟩⟩ (fun hz => filR_zero hz)
        (fun u hu => ih (dirQ (parentP e.path)) none 0 u (parN hp h0 hn) hpp (h.below hu) (fun hz => absurd rfl hz) (by have := below_len hpb; show (parentP e.path).length ≤ 1048576; omega) (by simp [dirQ]))
end Go.Proofs.YteegkblkfdnfiaaGreat

