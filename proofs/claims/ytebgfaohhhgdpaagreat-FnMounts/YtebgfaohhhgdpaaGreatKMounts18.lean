/-
  Texts put together: IteP OvrI.
-/
import Derived.Test.YtebgfaohhhgdpaaGreatKMounts17
import Derived.Test.YtebgfaohhhgdpaaGreatKMounts1
import Derived.Test.YtebgfaohhhgdpaaGreatKMounts5
import Derived.Test.YtebgfaohhhgdpaaGreatKMounts15
import Derived.ProofKit
import Derived.Deep.DrawnRows
import Derived.Deep.RegionHeld3
import Derived.Deep.RegionLaw
namespace Go.Proofs.YtebgfaohhhgdpaaGreat
open Go.RowKit Go.Maps
set_option linter.unusedVariables false
attribute [local go_sem ↓] Go.wp_at_zero Go.wp_at_succ

def baseP (es : List En) (e : En) : List En := es.filter fun x => !oustsE e x
theorem baseP_in {es : List En} {e x : En} {k : Nat} (he : es[k]? = some x) (h : oustsE e x = false) : baseP (es.take (k + 1)) e = baseP (es.take k) e ++ [x] := by
  rw [take_snoc_at he]; simp [baseP, h]
theorem baseP_out {es : List En} {e x : En} {k : Nat} (he : es[k]? = some x) (h : oustsE e x = true) : baseP (es.take (k + 1)) e = baseP (es.take k) e := by
  rw [take_snoc_at he]; simp [baseP, h]
theorem baseP_len (es : List En) (e : En) : (baseP es e).length ≤ es.length := List.length_filter_le _ _
theorem baseP_eq {es : List En} {e : En} (h : Right es) (he : entFault e = 0) : baseP es e = baseE es e := by
  refine List.filter_congr (fun x hx => ?_)
  exact ousts_keep (entFault_zero he) (entFault_zero (h.ent x hx))
theorem putE_len {es : List En} {e : En} : (putE es e).length = (baseE es e).length + 1 := by
  unfold putE putAt
  rw [List.length_append, List.length_cons, List.length_take, List.length_drop]
  omega
theorem LI.one {w : World} {e : En} {a : Option Addr} {c : Nat} (h : Reads .i64 w a e.chunks) : LI w (w.alloc (.cells #[.int .i64 e.size, .slice a e.chunks.length c, .string (str e.path), .int .i64 e.kind] 66)) (.slice (some ⟨w.heap.size, 0, none⟩) 1 1) [e] :=
  ⟨[⟨e, a, c⟩], rfl, ⟨rfl, .inr ⟨w.heap.size, 1, #[.int .i64 e.size, .slice a e.chunks.length c, .string (str e.path), .int .i64 e.kind], rfl, Nat.le_refl _, heap_alloc_new w _, Nat.le_refl _, by decide, rfl, rfl⟩⟩, fun r hr => by simp only [List.mem_singleton] at hr; subst hr; exact h⟩
theorem put_order {rs : List Rw} {e : En} {bs : List En} (h : rs.map Rw.e = e :: bs) : ∃ ss : List Rw, ss.Perm rs ∧ ss.map Rw.e = putAt bs e := by
  cases rs with
  | nil => simp at h
  | cons r rt =>
    simp only [List.map_cons, List.cons.injEq] at h
    obtain ⟨h1, h2⟩ := h
    refine ⟨rt.take (lowN bs e.path) ++ r :: rt.drop (lowN bs e.path), ?_, ?_⟩
    · refine List.perm_middle.trans ?_
      rw [List.take_append_drop]
    · rw [List.map_append, List.map_cons, List.map_take, List.map_drop, h1, h2]
      rfl
theorem sorted_rd {W0 wr w' : World} {g : Nat} {ss : List Rw} (hc : ∀ i q r, ss[i]? = some r → q < 4 → w'.cell? ⟨g, i * 4 + q, none⟩ = (cellsI r)[q]?) (hr : ∀ r ∈ ss, Reads .i64 W0 r.a r.e.chunks) (hb : Below W0.heap.size W0 wr) (hk : Kept (fun b => b = g) wr w') (hg : W0.heap.size ≤ g) (hgw : g < wr.heap.size) :
    RdI w' (some ⟨g, 0, none⟩) (ss.map Rw.e) := by
  intro _
  refine ⟨g, 0, fun i => (ss[i]?.map Rw.a).getD none, fun i => (ss[i]?.map Rw.c).getD 0, rfl, Nat.lt_of_lt_of_le hgw hk.size, fun i e hi => ?_⟩
  rw [List.getElem?_map] at hi
  cases hri : ss[i]? with
  | none => rw [hri] at hi; simp at hi
  | some r =>
    rw [hri] at hi
    simp only [Option.map_some, Option.some.injEq] at hi
    subst hi
    have c0 := hc i 0 r hri (by decide)
    have c1 := hc i 1 r hri (by decide)
    have c2 := hc i 2 r hri (by decide)
    have c3 := hc i 3 r hri (by decide)
    have hrr := hr r (List.mem_of_getElem? hri)
    simp only [hri, Option.map_some, Option.getD_some, Nat.zero_add]
    refine ⟨by simpa [cellsI] using c0, by simpa [cellsI] using c1, by simpa [cellsI] using c2, by simpa [cellsI] using c3, ?_⟩
    refine (hrr.below hb).kept hk (fun hz x hx e => ?_)
    obtain ⟨b, off, e1, hb1, _⟩ := hrr hz
    rw [e1] at hx
    cases hx
    simp only at e
    omega

set_option maxRecDepth 100000 in
set_option maxHeartbeats 6400000 in
theorem implPutEntry_any (a : Option Addr) (c n : Nat) (es : List En) (e : En) (x : Option Addr) (m cc : Nat) (w : World) (h : RdE w a es) (hn : n = es.length) (hl : es.length ≤ 1048576) (hs : SmallE es) (hm : m = e.chunks.length) (hr : Reads .i64 w x e.chunks) (hp : e.path.length ≤ 1048576) (hcl : e.chunks.length ≤ 1048576) :
    Calls Tryz.prog 133 #[.slice a n c, .agg #[.string (str e.path), .int .i64 e.kind, .int .i64 e.size, .slice x m cc]] w (ResE (putCodeP es e) (putListP es e) w) := by
  subst hn hm
  obtain ⟨i1, ki, kz0, kz1, kz2⟩ := info_parts Tryz.infoIt
  have F0 := hide ((Four.new w (.string (str e.path)) (.int .i64 e.kind) (.int .i64 e.size) (.slice x e.chunks.length cc) 53).below (below_alloc _ (.cells #[.int .i64 0, .slice none 0 0] 42)))
  have X0 := hide (Box.new (w.alloc (.cells #[.string (str e.path), .int .i64 e.kind, .int .i64 e.size, .slice x e.chunks.length cc] 53)) (.int .i64 0) (.slice none 0 0) 42)
  have h1 : (w.alloc (.cells #[.string (str e.path), .int .i64 e.kind, .int .i64 e.size, .slice x e.chunks.length cc] 53)).heap.size = w.heap.size + 1 := by simp
  rw [h1] at X0
  clear h1
  have B0 := hide (below_next (below_alloc w (.cells #[.string (str e.path), .int .i64 e.kind, .int .i64 e.size, .slice x e.chunks.length cc] 53)) (below_alloc _ (.cells #[.int .i64 0, .slice none 0 0] 42)))
  have HR := hide h
  have HS := hide hs
  have HRx := hide hr
  clear h hs hr
  go_enter Tryz.func133, Tryz.ntmps133
  go_wp2_with fail
  generalize (w.alloc (.cells #[.string (str e.path), .int .i64 e.kind, .int .i64 e.size, .slice x e.chunks.length cc] 53)).alloc (.cells #[.int .i64 0, .slice none 0 0] 42) = W0 at *
  obtain ⟨be, hbe⟩ : ∃ be, be = w.heap.size := ⟨_, rfl⟩
  rw [← hbe] at F0 X0 ⊢
  have HBE := hide hbe
  clear hbe
  refine (implLayerFault_any a c es.length es _ (HR.out.below B0.out) rfl hl HS.out).mono ?_
  rintro r w1 ⟨rfl, hb1⟩
  have B1 := hide (below_next B0.out hb1)
  have X1 := hide (X0.out.below hb1)
  have F1 := hide (F0.out.below hb1)
  clear hb1 X0 B0 F0
  by_cases hz : layFaultP es = 0
  · have HRi := hide (right_P.1 hz)
    rw [hz]
    obtain ⟨f0, f1, f2, f3⟩ := F1.out
    go_wp2_with fail
    refine (implEntryFault_any e _ _ _ _ (HRx.out.below B1.out) rfl hp hcl).mono ?_
    rintro r w2 ⟨rfl, hb2⟩
    have B2 := hide (below_next B1.out hb2)
    have X2 := hide (X1.out.below hb2)
    have F2 := hide (F1.out.below hb2)
    clear hb2 X1 B1 F1 f0 f1 f2 f3
    by_cases hz2 : entFault e = 0
    · rw [hz2]
      obtain ⟨f0, f1, f2, f3⟩ := F2.out
      go_wp2_with fail
      refine (parentFault_any a c es.length es e.path _ (HR.out.below B2.out) rfl hl (entFault_zero hz2) hp).mono ?_
      rintro r w3 ⟨rfl, hb3⟩
      have B3 := hide (below_next B2.out hb3)
      have X3 := hide (X2.out.below hb3)
      have F3 := hide (F2.out.below hb3)
      clear hb3 X2 B2 F2 f0 f1 f2 f3
      cases hz3 : homeP es e.path
      · have HCC := hide (show putCodeP es e = 9 ∧ putListP es e = [] from by
          have h0 : putCodeP es e = 9 := by rw [putCodeP, if_pos hz, if_pos hz2, hz3]; rfl
          exact ⟨h0, by rw [putListP, if_neg (by rw [h0]; decide)]⟩)
        clear hz hz2 hz3
        obtain ⟨⟨t0, t1⟩, t2, t3⟩ := X3.out
        go_wp2_with fail
        exact bodyPost_ret (v := .agg #[.int .i64 9, .slice none 0 0]) (by simp [results, Tryz.results133, go_sem, t0, t1]) rfl (by rw [HCC.out.1, HCC.out.2]; exact ResE.bad (by have := HBE.out; omega) B3.out)
      · have HC := hide (show putCodeP es e = if 12 < (putE es e).length then 2 else 0 from by rw [putCodeP, if_pos hz, if_pos hz2, hz3]; rfl)
        have HBP := hide (baseP_eq HRi.out hz2)
        clear hz hz2 hz3
        obtain ⟨f0, f1, f2, f3⟩ := F3.out
        go_wp2_with fail
        refine (itemOf_any _ _ _ _ _ _ _).mono ?_
        rintro r w4 ⟨rfl, hb4⟩
        have P4 := hide (Four.new w4 (.int .i64 e.size) (.slice x e.chunks.length cc) (.string (str e.path)) (.int .i64 e.kind) 66)
        have B4 := hide (below_next (below_next B3.out hb4) (below_alloc w4 (.cells #[.int .i64 e.size, .slice x e.chunks.length cc, .string (str e.path), .int .i64 e.kind] 66)))
        have X4 := hide ((X3.out.below hb4).below (below_alloc w4 (.cells #[.int .i64 e.size, .slice x e.chunks.length cc, .string (str e.path), .int .i64 e.kind] 66)))
        clear hb4 X3 B3 F3 f0 f1 f2 f3
        have hsz4 : (w4.alloc (.cells #[.int .i64 e.size, .slice x e.chunks.length cc, .string (str e.path), .int .i64 e.kind] 66)).heap.size = w4.heap.size + 1 := by simp
        go_wp2_with fail
        generalize w4.alloc (.cells #[.int .i64 e.size, .slice x e.chunks.length cc, .string (str e.path), .int .i64 e.kind] 66) = W4 at *
        have L5 := hide (LI.one (w := W4) (e := e) (a := x) (c := cc) (HRx.out.below B4.out))
        have B5 := hide (below_alloc W4 (.cells #[.int .i64 e.size, .slice x e.chunks.length cc, .string (str e.path), .int .i64 e.kind] 66))
        rw [hsz4] at L5
        have HSZ := hide hsz4
        clear hsz4
        have HR4 := hide (HR.out.below B4.out)
        have hb4 : w4.heap.size < W4.heap.size := P4.out.lt
        generalize w4.heap.size = b4 at *
        go_loopw [9, 39] (fun v i wr => ∃ k : Nat, k ≤ es.length ∧ i = .int .i64 k ∧ Hid (LI W4 wr v (e :: baseP (es.take k) e)) ∧ Hid (Below W4.heap.size W4 wr)) (fun _ i _ => es.length - (intOf i).toNat)
        case atStart => exact ⟨0, Nat.zero_le _, rfl, hide (by simpa [baseP] using L5.out), B5⟩
        case round =>
          obtain ⟨k, hk, rfl, HL, HW⟩ := hrel
          have hsz := HW.out.size
          obtain ⟨lv, lc, hv⟩ := HL.out.shape
          obtain ⟨L, hL⟩ : ∃ L, L = (e :: baseP (es.take k) e).length := ⟨_, rfl⟩
          rw [← hL] at hv
          subst hv
          have hL2 : L ≤ 1048577 := by
            have hrl := baseP_len (es.take k) e
            rw [List.length_take] at hrl
            rw [hL, List.length_cons]; omega
          have HLn := hide hL
          clear hL
          by_cases hlt : k < es.length
          · obtain ⟨b, off, y, xx, cy, rfl, hb, he, c0, c1, c2, c3, hr⟩ := (HR4.out.below HW.out).at hlt
            obtain ⟨b', off', y', xx', cy', hbb, hb', he', d0, d1, d2, d3, hr'⟩ := HR4.out.at hlt
            simp only [Option.some.injEq, Addr.mk.injEq, and_true] at hbb
            obtain ⟨rfl, rfl⟩ := hbb
            have : y' = y := Option.some.inj (he'.symm.trans he)
            subst this
            have d3' := (HW.out.cell (p := ⟨b, off + k * 4 + 3, none⟩) hb').trans d3
            rw [c3] at d3'
            simp only [Option.some.injEq, Value.slice.injEq, true_and] at d3'
            obtain ⟨rfl, rfl⟩ := d3'
            have hsm := HS.out y' (List.mem_of_getElem? he)
            have HX := hide he
            have HRc := hide hr'
            clear he hr hr' he' d0 d1 d2 d3
            have BA := hide (below_alloc wr (.cells #[.string (str y'.path), .int .i64 y'.kind, .int .i64 y'.size, .slice xx y'.chunks.length cy] 53))
            go_wp2_with fail
            refine (itemOf_any _ _ _ _ _ _ _).mono ?_
            rintro r w5 ⟨rfl, hb5⟩
            have F5 := hide (Four.new w5 (.int .i64 y'.size) (.slice xx y'.chunks.length cy) (.string (str y'.path)) (.int .i64 y'.kind) 66)
            have BB5 := hide (below_next (below_next BA.out hb5) (below_alloc w5 (.cells #[.int .i64 y'.size, .slice xx y'.chunks.length cy, .string (str y'.path), .int .i64 y'.kind] 66)))
            obtain ⟨p0, p1, p2, p3⟩ := P4.out.below (below_next HW.out BB5.out)
            clear hb5 c0 c1 c2 c3 BA
            go_wp2_with fail
            generalize w5.alloc (.cells #[.int .i64 y'.size, .slice xx y'.chunks.length cy, .string (str y'.path), .int .i64 y'.kind] 66) = W5 at *
            generalize w5.heap.size = b5 at *
            obtain ⟨f0, f1, f2, f3⟩ := F5.out
            go_wp2_with fail
            refine (ousts_any e y' _ _ _ _ _ _ _ hsm.1).mono ?_
            rintro r w6 ⟨rfl, hb6⟩
            have BB6 := hide (below_next BB5.out hb6)
            have F6 := F5.out.below hb6
            clear hb6 F5 BB5 p0 p1 p2 p3 f0 f1 f2 f3
            obtain ⟨f0, f1, f2, f3⟩ := F6
            cases hq : oustsE e y'
            · have HN := hide (baseP_in HX.out hq)
              clear hq
              obtain ⟨rs, g1, g2, g3⟩ := HL.out
              have G1 := hide g1
              have G2 := hide (ownsRow_below g2 BB6.out)
              have G3 := hide g3
              clear g1 g2 g3
              rw [← HLn.out] at G2
              have hm1 : L + 1 ≤ maxLen := by unfold maxLen; omega
              have hm1' : (L + 1) * 56 ≤ 140737488355328 := by omega
              have hsz6 := BB6.out.size
              go_wp2_with (at_builtin; refine wpList_append_put rfl (.tmp 49) (.tmp 51) 57 rfl W4.heap.size 66 i1 (.agg #[.int .i64 0, .slice none 0 0, .string ⟨#[]⟩, .int .i64 0]) 4 56 Tryz.underlying57 ki kz0 kz1 kz2 rfl (by decide) _ _ _ rfl G2.out _ rfl rfl rfl (by intro u hu; simp at hu; rcases hu with rfl | rfl | rfl | rfl <;> rfl) hm1 hm1' (by omega) ?_; intro av7 cv7 w7 hown7 hk7; have O7 := hide hown7; have K7 := hide hk7; clear hown7 hk7)
              go_roundw
              case rel =>
                refine ⟨k + 1, by omega, by go_num, hide ?_, hide ?_⟩
                · rw [HN.out]
                  exact LI.push (es := e :: baseP (es.take k) e) (e := y') (a := xx) (c := cy) G1.out HLn.out G3.out HRc.out O7.out
                · exact (below_next HW.out BB6.out).trans (K7.out.below (by omega) (fun q hq hS => by have := (G2.out.lt q hS).1; omega))
              case measure => simp [intOf]; omega
            · have HN := hide (baseP_out HX.out hq)
              clear hq
              go_wp2_with fail
              go_roundw
              case rel => exact ⟨k + 1, by omega, by go_num, hide (by rw [HN.out]; exact HL.out.below BB6.out), hide (below_next HW.out BB6.out)⟩
              case measure => simp [intOf]; omega
          · have HE := hide (show es.take k = es from List.take_of_length_le (by omega))
            obtain ⟨rs, g1, g2, g3⟩ := HL.out
            rw [HE.out, HBP.out] at g1
            rw [← HLn.out] at g2
            have HN := hide (show L = (putE es e).length from by rw [HLn.out, HE.out, HBP.out, putE_len, List.length_cons])
            have G1 := hide g1
            have G2 := hide g2
            have G3 := hide g3
            clear g1 g2 g3 HE HL
            obtain ⟨⟨t0, t1⟩, t2, t3⟩ := X4.out.below HW.out
            have hPos : 0 < L := by rw [HN.out, putE_len]; omega
            by_cases h12 : 12 < L
            · have HCC := hide (show putCodeP es e = 2 ∧ putListP es e = [] from by
                have h0 : putCodeP es e = 2 := by rw [HC.out, if_pos (by rw [← HN.out]; exact h12)]
                exact ⟨h0, by rw [putListP, if_neg (by rw [h0]; decide)]⟩)
              have h12' : (12 : Int) < (L : Int) := by omega
              go_wp2_with fail
              exact bodyPost_ret (v := .agg #[.int .i64 2, .slice none 0 0]) (by simp [results, Tryz.results133, go_sem, t0, t1]) rfl (by rw [HCC.out.1, HCC.out.2]; exact ResE.bad (by have := HBE.out; omega) (below_next B4.out HW.out))
            · have HCC := hide (show putCodeP es e = 0 ∧ putListP es e = putE es e from by
                have h0 : putCodeP es e = 0 := by rw [HC.out, if_neg (by rw [← HN.out]; exact h12)]
                exact ⟨h0, by rw [putListP, if_pos h0]⟩)
              have h12' : ¬ (12 : Int) < (L : Int) := by omega
              obtain ⟨g, hgv, -⟩ := row_addr G2.out (.inl hPos)
              subst hgv
              obtain ⟨ss, hperm, hmap⟩ := put_order G1.out
              have hmap' : ss.map Rw.e = putE es e := hmap
              have hrise : ss.Pairwise (fun x y => Op.bytesLess x.e.path y.e.path = true) := by
                have := rise_putE (e := e) HRi.out.rise
                rw [← hmap'] at this
                exact List.pairwise_map.1 this
              have HSO := hide (sortItems_any W4.heap.size g L lc rs ss wr G2.out (by rw [← List.length_map (f := Rw.e), G1.out, HN.out, putE_len, List.length_cons]) (by omega) hperm hrise)
              have HSR := hide (fun w' hc hk => sorted_rd (W0 := W4) (wr := wr) (w' := w') (g := g) (ss := ss) hc (fun r hr => G3.out r (hperm.subset hr)) HW.out hk ((G2.out.lt g rfl).1) ((G2.out.lt g rfl).2))
              rw [hmap'] at HSR
              have hgl := G2.out.lt g rfl
              clear hperm hmap hmap' hrise
              go_wp2_with fail
              refine HSO.out.mono ?_
              rintro r w8 ⟨rfl, hc8, hk8⟩
              have RI := hide (HSR.out w8 hc8 hk8)
              have B8 := hide (below_next B4.out (HW.out.trans (hk8.below hsz (fun q hq hS => by have : q = g := hS; omega))))
              have X8 := hide ((X4.out.below HW.out).kept hk8 (fun e => by have := X4.out.1.lt; omega))
              have hs8 := hk8.size
              have hlt8 := X4.out.1.lt
              clear hc8 hk8 HSO HSR t0 t1 t2 t3
              go_wp2_with fail
              refine (entriesOf_any _ _ L (putE es e) _ RI.out HN.out (by rw [← HN.out]; omega) (fun z hz => by
                rcases mem_putE.1 hz with rfl | ⟨hz, _⟩
                · exact ⟨hp, hcl⟩
                · exact HS.out z hz)).mono ?_
              rintro r w9 ⟨av9, cv9, rfl, hG9, hb9⟩
              obtain ⟨⟨t0, t1⟩, t2, t3⟩ := X8.out.below hb9
              have G9 := hide hG9
              have B9 := hide (below_next B8.out hb9)
              clear hG9 hb9
              go_wp2_with fail
              exact bodyPost_ret (v := .agg #[.int .i64 0, .slice av9 L cv9]) (by simp [results, Tryz.results133, go_sem, t0, t1]) rfl (by rw [HCC.out.1, HCC.out.2]; exact ResE.of (w2 := w) (by omega) (by have := HBE.out; omega) HN.out G9.out B9.out)
    · have HCC := hide (show putCodeP es e = entFault e ∧ putListP es e = [] from by
        have h0 : putCodeP es e = entFault e := by rw [putCodeP, if_pos hz, if_neg hz2]
        exact ⟨h0, by rw [putListP, if_neg (by rw [h0]; exact hz2)]⟩)
      clear hz
      generalize entFault e = F at *
      have hz3 : (F != 0) = true := by simp; exact hz2
      clear hz2
      obtain ⟨⟨t0, t1⟩, t2, t3⟩ := X2.out
      go_wp2_with fail
      exact bodyPost_ret (v := .agg #[.int .i64 F, .slice none 0 0]) (by simp [results, Tryz.results133, go_sem, t0, t1]) rfl (by rw [HCC.out.1, HCC.out.2]; exact ResE.bad (by have := HBE.out; omega) B2.out)
  · have HCC := hide (show putCodeP es e = layFaultP es ∧ putListP es e = [] from by
      have h0 : putCodeP es e = layFaultP es := by rw [putCodeP, if_neg hz]
      exact ⟨h0, by rw [putListP, if_neg (by rw [h0]; exact hz)]⟩)
    generalize layFaultP es = F at *
    have hz2 : (F != 0) = true := by simp; exact hz
    clear hz
    obtain ⟨⟨t0, t1⟩, t2, t3⟩ := X1.out
    go_wp2_with fail
    exact bodyPost_ret (v := .agg #[.int .i64 F, .slice none 0 0]) (by simp [results, Tryz.results133, go_sem, t0, t1]) rfl (by rw [HCC.out.1, HCC.out.2]; exact ResE.bad (by have := HBE.out; omega) B1.out)

end Go.Proofs.YtebgfaohhhgdpaaGreat

namespace Go.Proofs.YtebgfaohhhgdpaaGreat
open Go.RowKit
set_option linter.unusedVariables false
attribute [local go_sem ↓] Go.wp_at_zero Go.wp_at_succ

def lowS (ps : List Bs) (p : Bs) : Nat := (ps.takeWhile fun x => Op.bytesLess x p).length
def putS (ps : List Bs) (p : Bs) : List Bs := ps.take (lowS ps p) ++ p :: ps.drop (lowS ps p)
theorem lowS_at {bs : List Bs} {p : Bs} {k : Nat} (hk : k ≤ bs.length) (h1 : (bs.take k).all (fun x => Op.bytesLess x p) = true) (h2 : ∀ y, bs[k]? = some y → Op.bytesLess y p = false) : lowS bs p = k := by
  have e : bs = bs.take k ++ bs.drop k := (List.take_append_drop k bs).symm
  have hd : (bs.drop k).takeWhile (fun x => Op.bytesLess x p) = [] := by
    cases hx : bs.drop k with
    | nil => rfl
    | cons y r =>
      have : bs[k]? = some y := by
        have h3 := congrArg (fun l => l[0]?) hx
        simpa using h3
      simp [h2 y this]
  unfold lowS
  conv => lhs; rw [e]
  rw [List.takeWhile_append_of_pos (by intro x hx; exact List.all_eq_true.1 h1 x hx), hd, List.append_nil, List.length_take]
  omega
theorem putS_len (ps : List Bs) (p : Bs) : (putS ps p).length = ps.length + 1 := by
  unfold putS
  have : lowS ps p ≤ ps.length := by unfold lowS; exact List.Sublist.length_le (List.takeWhile_sublist _)
  simp; omega
theorem vS_one (ys : List Bs) : ∀ u ∈ ys.map vS, u.oneCell' = true := by
  intro u hu
  obtain ⟨p, -, rfl⟩ := List.mem_map.1 hu
  rfl
theorem reads_newsS {w : World} {b off : Nat} {ys : List Bs} (h : ∀ i, i < ys.length → w.cell? ⟨b, off + i, none⟩ = some (.string (str (ys.getD i [])))) : ∀ j u, (ys.map vS)[j]? = some u → w.cell? ((⟨b, off, none⟩ : Addr).add j) = some u := by
  intro j u hj
  rw [addr_add]
  have hlt : j < ys.length := by have := (List.getElem?_eq_some_iff.1 hj).1; simpa using this
  rw [h j hlt]
  rw [List.getElem?_map, List.getElem?_eq_getElem hlt] at hj
  simp only [Option.map_some, Option.some.injEq] at hj
  rw [← hj, List.getD_eq_getElem?_getD, List.getElem?_eq_getElem hlt]
  rfl
theorem step_appS {P : Program} {w : World} {ops : Array Oper} {o : Oper} {a : Act} {K : Act → World → Prop} {Q : Exit → Act → World → Prop} {E : Prop} (hgd : o.guard = none) (s x : Operand) (t : TypeId)
    (ho : o.op = .call { callee := .builtin .append, args := #[s, x], argTypes := #[t, t] })
    (base : Nat) (e : TypeId) (i : TypeInfo) (ht : P.underlying t = some (.slice e)) (hi : P.info? e = some i) (hz : i.zero = some (.string ⟨#[]⟩))
    (hsize : i.size = 1) (hby : i.bytes = 16)
    (av0 : Option Addr) (n c0 : Nat) (xs : List Bs) (hs : a.eval s = .slice av0 n c0) (hown : w.ownsRow base e 1 (.slice av0 n c0) n (xs.map vS))
    (xv : Option Addr) (m xc : Nat) (ys : List Bs) (hx : a.eval x = .slice xv m xc) (hm : ys.length = m) (hr : ReadsS w xv ys)
    (N : Nat) (hN : n + m = N) (h63 : n + m ≤ maxLen) (hbytes : (n + m) * 16 ≤ 140737488355328) (hbase : base ≤ w.heap.size)
    (h : ∀ av cv w', w'.ownsRow base e 1 (.slice av N cv) N ((xs ++ ys).map vS) → Kept (fun b => (Value.slice av0 n c0).ownBlock = some b) w w' → K (a.put o.dst (.slice av N cv)) w') :
    if Region.wanted o (yielded ops a.tmps) = true then Oper.wp P o a w K Q else E := by
  have hw : Region.wanted o (yielded ops a.tmps) = true := by simp [Region.wanted, hgd]
  rw [if_pos hw]
  subst hm
  cases xv with
  | some ad =>
    refine wp_append_own w s x t ho base e i (.string ⟨#[]⟩) 1 16 ht hi hz hsize hby rfl (by decide) _ n _ hs hown ad ys.length xc (ys.map vS) hx (by simp) (fun j u hj => ?_) (vS_one ys) h63 hbytes hbase fun v' w' h2 h3 _ => ?_
    · have h0 : ys ≠ [] := fun e => by subst e; simp at hj
      obtain ⟨b, off, e1, hb, hc⟩ := hr h0
      simp only [Option.some.injEq] at e1
      subst e1
      exact reads_newsS hc j u hj
    · rw [hN] at h2
      obtain ⟨av, cv, rfl⟩ := ownsRow_shape h2
      exact h av cv w' (by rw [List.map_append]; exact h2) ⟨h3.os, h3.tape, h3.output, h3.size, fun q hq hn => h3.block q hq (fun e => hn e.symm)⟩
  | none =>
    have h0 : ys = [] := by
      by_cases h0 : ys = []
      · exact h0
      · obtain ⟨b, off, e1, -⟩ := hr h0; cases e1
    subst h0
    have hN' : N = n := by simp at hN; omega
    subst hN'
    have hc0 : (if xc = 0 then true else true) = true := by split <;> rfl
    have hrun : (Builtin.append_ #[t, t] o.type #[.slice av0 N c0, .slice none 0 xc]).run P w = .ok (.slice av0 N c0) w := by
      rcases hown.2 with ⟨hv, h0⟩ | ⟨g, cap, cur, hv, -, -, hnc, -⟩
      · simp only [Value.slice.injEq] at hv
        obtain ⟨rfl, rfl, rfl⟩ := hv
        simp [Builtin.append_, run_underlying ht, sizeOf, typeInfo, hi, Builtin.lenOf, Builtin.firstCells]
      · simp only [Value.slice.injEq, true_and] at hv
        obtain ⟨rfl, rfl⟩ := hv
        simp [Builtin.append_, run_underlying ht, sizeOf, typeInfo, hi, Builtin.lenOf, Builtin.firstCells, hnc, storeCells]
    unfold Oper.wp execOp
    simp only [ho, resolve, invoke, builtin, Sem.run_bind, Sem.run_pure, Result.andThen_ok, List.map_toArray, List.map_cons, List.map_nil, hs, hx, List.length_nil, hrun]
    exact h av0 c0 w (by rw [List.append_nil]; exact hown) (Kept.refl _ _)

theorem ReadsS.drop {w : World} {g : Nat} {ps : List Bs} (h : ReadsS w (some ⟨g, 0, none⟩) ps) (k : Nat) : ReadsS w (some ⟨g, k, none⟩) (ps.drop k) := by
  intro hz
  have hp : ps ≠ [] := by rintro rfl; simp at hz
  obtain ⟨b, off, e1, hb, hc⟩ := h hp
  simp only [Option.some.injEq, Addr.mk.injEq, and_true] at e1
  obtain ⟨rfl, rfl⟩ := e1
  refine ⟨g, k, rfl, hb, fun i hi => ?_⟩
  have hi' : k + i < ps.length := by simp at hi; omega
  have := hc (k + i) hi'
  rw [Nat.zero_add] at this
  rw [this]
  simp [List.getD_eq_getElem?_getD]
theorem reads_name (w : World) (p : Bs) : ReadsS (w.alloc (.cells #[.string (str p)] 9)) (some ⟨w.heap.size, 0, none⟩) [p] := by
  intro _
  refine ⟨w.heap.size, 0, rfl, by simp, fun i hi => ?_⟩
  obtain rfl : i = 0 := by simp at hi; omega
  simp
theorem made_none (w : World) : (w.alloc (.cells #[] 9)).ownsRow w.heap.size 9 1 (.slice (some ⟨w.heap.size, 0, none⟩) 0 0) 0 (([] : List Bs).map vS) := World.ownsRow_made w #[] 0 (Nat.le_refl _) (Nat.zero_le _) rfl

theorem apd_step {w w1 w2 : World} {b n c : Nat} (h : Below w.heap.size w w1) (hk : Kept (fun q => (Value.slice (some ⟨b, 0, none⟩) n c).ownBlock = some q) w1 w2) (hb : w.heap.size ≤ b) : Below w.heap.size w w2 :=
  h.trans (hk.below h.size (fun q hq hS => by simp [Value.ownBlock] at hS; omega))
theorem apd_step2 {w w1 w2 w3 : World} {t : TypeId} {a : Option Addr} {n c m : Nat} {xs : List Value} (h : Below w.heap.size w w1) (hk : Kept (fun q => (Value.slice a n c).ownBlock = some q) w1 w2) (ho : w3.ownsRow w.heap.size t 1 (.slice a n c) m xs) : Below w.heap.size w w2 :=
  h.trans (hk.below h.size (fun q hq hS => by have := (ho.lt q hS).1; omega))
theorem keep_name {w1 w2 : World} {b d n c : Nat} {p : Bs} (hk : Kept (fun q => (Value.slice (some ⟨b, 0, none⟩) n c).ownBlock = some q) w1 w2) (hd : d ≠ b) (h : ReadsS w1 (some ⟨d, 0, none⟩) [p]) : ReadsS w2 (some ⟨d, 0, none⟩) [p] :=
  h.kept hk (fun _ x hx hS => by simp only [Option.some.injEq] at hx; subst hx; simp [Value.ownBlock] at hS; exact hd hS.symm)
theorem put_own {B : Nat} {w : World} {a : Option Addr} {c k n : Nat} {ps qs : List Bs} {p : Bs} (h : w.ownsRow B 9 1 (.slice a n c) n ((((([] : List Bs) ++ ps.take k) ++ [p]) ++ ps.drop k).map vS)) (hq : qs = ps.take k ++ p :: ps.drop k) (hn : qs.length = n) : OwnS B w (.slice a n c) qs := by
  subst hq
  unfold OwnS
  rw [hn]
  simpa using h
set_option maxRecDepth 100000 in
set_option maxHeartbeats 12800000 in
theorem l8Put_some (g c : Nat) (ps : List Bs) (p : Bs) (w : World) (h : ReadsS w (some ⟨g, 0, none⟩) ps) (hc : ps.length ≤ c) (hl : ps.length ≤ 1048576) :
    Calls Tryz.prog 120 #[.slice (some ⟨g, 0, none⟩) ps.length c, .string (str p)] w fun r w' => ∃ av cv, r = .returned (.slice av (putS ps p).length cv) ∧ OwnS w.heap.size w' (.slice av (putS ps p).length cv) (putS ps p) ∧ Below w.heap.size w w' := by
  obtain ⟨i1, ki, kz0, kz1, kz2⟩ := info_parts infoS
  have HR := hide h
  clear h
  go_enter Tryz.func120, Tryz.ntmps120
  go_wp2_with fail
  go_loopw [5] (fun i wr => ∃ k : Nat, k ≤ ps.length ∧ i = .int .i64 k ∧ wr = w ∧ Hid ((ps.take k).all (fun x => Op.bytesLess x p) = true)) (fun i _ => ps.length - (intOf i).toNat)
  case atStart => exact ⟨0, Nat.zero_le _, rfl, rfl, hide (by simp)⟩
  case round =>
    obtain ⟨k, hk, rfl, rfl, HL⟩ := hrel
    have hk0 : (0 : Int) ≤ (k : Int) := by omega
    have hkc : (k : Int) ≤ (c : Int) := by omega
    have hkl : (k : Int) ≤ (ps.length : Int) := by omega
    have hlc : (ps.length : Int) ≤ (c : Int) := by omega
    by_cases hlt : k < ps.length
    · obtain ⟨b, off, q, hbb, hb, he, c0⟩ := HR.out.at hlt
      simp only [Option.some.injEq, Addr.mk.injEq, and_true] at hbb
      obtain ⟨rfl, rfl⟩ := hbb
      rw [Nat.zero_add] at c0
      have hk1 : (k : Int) < (ps.length : Int) := by omega
      have HX := hide he
      clear he
      cases hlo : Op.bytesLess (str q).toList (str p).toList
      · have HLk := hide (lowS_at hk HL.out (fun y' hy' => by rw [HX.out] at hy'; cases hy'; rw [str_toList, str_toList] at hlo; exact hlo))
        have hck : ¬ c = k := by omega
        have HPut := hide (show putS ps p = ps.take k ++ p :: ps.drop k from by unfold putS; rw [HLk.out])
        have HLen := hide (putS_len ps p)
        have BSA : Hid (Below wr.heap.size wr ((wr.alloc (.cells #[] 9)).drew)) := hide (below_alloc wr _).drew
        have BSB : Hid (Below wr.heap.size wr (((wr.alloc (.cells #[] 9)).alloc (.cells #[.string (str p)] 9)).drew)) := hide (below_next (below_alloc wr _) (below_alloc _ _)).drew
        have BSC : Hid (Below wr.heap.size wr (((wr.alloc (.cells #[.string (str p)] 9)).alloc (.cells #[] 9)).drew)) := hide (below_next (below_alloc wr _) (below_alloc _ _)).drew
        have OA : Hid (((wr.alloc (.cells #[] 9)).drew).ownsRow wr.heap.size 9 1 (.slice (some ⟨wr.heap.size, 0, none⟩) 0 0) 0 (([] : List Bs).map vS)) := hide (made_none wr)
        have OB : Hid ((((wr.alloc (.cells #[] 9)).alloc (.cells #[.string (str p)] 9)).drew).ownsRow wr.heap.size 9 1 (.slice (some ⟨wr.heap.size, 0, none⟩) 0 0) 0 (([] : List Bs).map vS)) := hide (ownsRow_below (made_none wr) (below_alloc _ _).drew)
        have OC : Hid ((((wr.alloc (.cells #[.string (str p)] 9)).alloc (.cells #[] 9)).drew).ownsRow wr.heap.size 9 1 (.slice (some ⟨wr.heap.size + 1, 0, none⟩) 0 0) 0 (([] : List Bs).map vS)) := hide (by have := made_none (wr.alloc (.cells #[.string (str p)] 9)); rw [show (wr.alloc (.cells #[.string (str p)] 9)).heap.size = wr.heap.size + 1 by simp] at this; exact ownsRow_mono this (by omega))
        have RNB : Hid (ReadsS (((wr.alloc (.cells #[] 9)).alloc (.cells #[.string (str p)] 9)).drew) (some ⟨wr.heap.size + 1, 0, none⟩) [p]) := hide (by have := reads_name (wr.alloc (.cells #[] 9)) p; rw [show (wr.alloc (.cells #[] 9)).heap.size = wr.heap.size + 1 by simp] at this; exact this)
        have RNC : Hid (ReadsS (((wr.alloc (.cells #[.string (str p)] 9)).alloc (.cells #[] 9)).drew) (some ⟨wr.heap.size, 0, none⟩) [p]) := hide ((reads_name wr p).below (below_alloc _ _).drew)
        have HNB : Hid (wr.heap.size + 1 ≠ wr.heap.size) := hide (by omega)
        have HNC : Hid (wr.heap.size ≠ wr.heap.size + 1) := hide (by omega)
        have HBA : Hid (wr.heap.size ≤ wr.heap.size) := hide (Nat.le_refl _)
        have HBB : Hid (wr.heap.size ≤ wr.heap.size) := hide (Nat.le_refl _)
        have HBC : Hid (wr.heap.size ≤ wr.heap.size + 1) := hide (by omega)
        have htk : Hid ((ps.take k).length = k) := hide (by rw [List.length_take]; omega)
        have hk00 : Hid (0 + k = k) := hide (by omega)
        have hdk : Hid ((ps.drop k).length = (ps.length - k)) := hide (by rw [List.length_drop])
        have hN3 : Hid (k + 1 + (ps.length - k) = ps.length + 1) := hide (by omega)
        have RTA : Hid (ReadsS ((wr.alloc (.cells #[] 9)).drew) (some ⟨g, 0, none⟩) (ps.take k)) := hide ((HR.out.below BSA.out).take k)
        have RTB : Hid (ReadsS (((wr.alloc (.cells #[] 9)).alloc (.cells #[.string (str p)] 9)).drew) (some ⟨g, 0, none⟩) (ps.take k)) := hide ((HR.out.below BSB.out).take k)
        have RTC : Hid (ReadsS (((wr.alloc (.cells #[.string (str p)] 9)).alloc (.cells #[] 9)).drew) (some ⟨g, 0, none⟩) (ps.take k)) := hide ((HR.out.below BSC.out).take k)
        have RD : Hid (∀ u : World, Below wr.heap.size wr u → ReadsS u (some ⟨g, k, none⟩) (ps.drop k)) := hide (fun u hu => (HR.out.below hu).drop k)
        have hm0 : 0 + k ≤ maxLen := by unfold maxLen; omega
        have hm0' : (0 + k) * 16 ≤ 140737488355328 := by omega
        have hm1 : k + 1 ≤ maxLen := by unfold maxLen; omega
        have hm1' : (k + 1) * 16 ≤ 140737488355328 := by omega
        have hm2 : k + 1 + (ps.length - k) ≤ maxLen := by unfold maxLen; omega
        have hm2' : (k + 1 + (ps.length - k)) * 16 ≤ 140737488355328 := by omega
        go_wp2_with fail
        go_region_law
          ((first
            | (refine step_appS (by rfl) (.tmp 20) (.tmp 23) 83 (by rfl) wr.heap.size 9 i1 Tryz.underlying83 ki kz0 kz1 kz2 (some ⟨wr.heap.size + 1, 0, none⟩) 0 0 [] (by rfl) OC.out (some ⟨g, 0, none⟩) k c (ps.take k) (by rfl) htk.out RTC.out k hk00.out hm0 hm0' BSC.out.size ?_; intro av3 cv3 w3 hown3 hk3; have RN3 := hide (keep_name hk3 HNC.out RNC.out); have BW3 := hide (apd_step BSC.out hk3 HBC.out); have O3 := hide hown3; clear hown3 hk3)
            | (refine step_appS (by rfl) (.tmp 20) (.tmp 23) 83 (by rfl) wr.heap.size 9 i1 Tryz.underlying83 ki kz0 kz1 kz2 (some ⟨wr.heap.size, 0, none⟩) 0 0 [] (by rfl) OB.out (some ⟨g, 0, none⟩) k c (ps.take k) (by rfl) htk.out RTB.out k hk00.out hm0 hm0' BSB.out.size ?_; intro av3 cv3 w3 hown3 hk3; have RN3 := hide (keep_name hk3 HNB.out RNB.out); have BW3 := hide (apd_step BSB.out hk3 HBB.out); have O3 := hide hown3; clear hown3 hk3)
            | (refine step_appS (by rfl) (.tmp 20) (.tmp 23) 83 (by rfl) wr.heap.size 9 i1 Tryz.underlying83 ki kz0 kz1 kz2 (some ⟨wr.heap.size, 0, none⟩) 0 0 [] (by rfl) OA.out (some ⟨g, 0, none⟩) k c (ps.take k) (by rfl) htk.out RTA.out k hk00.out hm0 hm0' BSA.out.size ?_; intro av3 cv3 w3 hown3 hk3; have BW3 := hide (apd_step BSA.out hk3 HBA.out); have O3 := hide hown3; clear hown3 hk3)
            | (refine step_appS (by rfl) (.tmp 24) (.tmp 26) 83 (by rfl) wr.heap.size 9 i1 Tryz.underlying83 ki kz0 kz1 kz2 av3 k cv3 (([] : List Bs) ++ ps.take k) (by rfl) O3.out (some ⟨wr.heap.size, 0, none⟩) 1 1 [p] (by rfl) rfl RN3.out (k + 1) rfl hm1 hm1' BW3.out.size ?_; intro av4 cv4 w4 hown4 hk4; have BW4 := hide (apd_step2 BW3.out hk4 O3.out); have O4 := hide hown4; clear hown4 hk4)
            | (refine step_appS (by rfl) (.tmp 24) (.tmp 26) 83 (by rfl) wr.heap.size 9 i1 Tryz.underlying83 ki kz0 kz1 kz2 av3 k cv3 (([] : List Bs) ++ ps.take k) (by rfl) O3.out (some ⟨wr.heap.size + 1, 0, none⟩) 1 1 [p] (by rfl) rfl RN3.out (k + 1) rfl hm1 hm1' BW3.out.size ?_; intro av4 cv4 w4 hown4 hk4; have BW4 := hide (apd_step2 BW3.out hk4 O3.out); have O4 := hide hown4; clear hown4 hk4)
            | (refine step_appS (by rfl) (.tmp 24) (.tmp 26) 83 (by rfl) wr.heap.size 9 i1 Tryz.underlying83 ki kz0 kz1 kz2 av3 k cv3 (([] : List Bs) ++ ps.take k) (by rfl) (ownsRow_below O3.out (below_alloc w3 (.cells #[.string (str p)] 9))) (some ⟨w3.heap.size, 0, none⟩) 1 1 [p] (by rfl) rfl (reads_name w3 p) (k + 1) rfl hm1 hm1' (below_next BW3.out (below_alloc w3 (.cells #[.string (str p)] 9))).size ?_; intro av4 cv4 w4 hown4 hk4; have BW4 := hide (apd_step2 (below_next BW3.out (below_alloc w3 (.cells #[.string (str p)] 9))) hk4 O3.out); have O4 := hide hown4; clear hown4 hk4)
            | (refine step_appS (by rfl) (.tmp 27) (.tmp 30) 83 (by rfl) wr.heap.size 9 i1 Tryz.underlying83 ki kz0 kz1 kz2 av4 (k + 1) cv4 ((([] : List Bs) ++ ps.take k) ++ [p]) (by rfl) O4.out (some ⟨g, k, none⟩) (ps.length - k) (c - k) (ps.drop k) (by rfl) hdk.out (RD.out _ BW4.out) (ps.length + 1) hN3.out hm2 hm2' BW4.out.size ?_; intro av5 cv5 w5 hown5 hk5; have BW5 := hide (apd_step2 BW4.out hk5 O4.out); have O5 := hide hown5; clear hown5 hk5)))
        all_goals
          go_wp2_with fail
          go_ret
          exact ⟨av5, cv5, by rw [HLen.out]; rfl, by rw [HLen.out]; exact put_own O5.out HPut.out HLen.out, BW5.out⟩
      · have HLk := hide (show (ps.take (k + 1)).all (fun x => Op.bytesLess x p) = true from by
          rw [str_toList, str_toList] at hlo
          rw [take_snoc_at HX.out]; simp only [List.all_append, HL.out, List.all_cons, hlo, List.all_nil, Bool.and_self])
        go_wp2_with fail
        go_roundw
        case rel => exact ⟨k + 1, by omega, by go_num, (by first | rfl | trivial), HLk⟩
        case measure => simp [intOf]; omega
    · have HLk := hide (lowS_at hk HL.out (fun y' hy' => by have := (List.getElem?_eq_some_iff.1 hy').1; omega))
      have hk1 : ¬ (k : Int) < (ps.length : Int) := by omega
      by_cases hck : c = k
      · obtain rfl : k = c := hck.symm
        have hkn : k = ps.length := by omega
        have HPut := hide (show putS ps p = ps.take k ++ p :: ps.drop k from by unfold putS; rw [HLk.out])
        have HLen := hide (putS_len ps p)
        have BSA : Hid (Below wr.heap.size wr ((wr.alloc (.cells #[] 9)).drew)) := hide (below_alloc wr _).drew
        have BSB : Hid (Below wr.heap.size wr (((wr.alloc (.cells #[] 9)).alloc (.cells #[.string (str p)] 9)).drew)) := hide (below_next (below_alloc wr _) (below_alloc _ _)).drew
        have BSC : Hid (Below wr.heap.size wr (((wr.alloc (.cells #[.string (str p)] 9)).alloc (.cells #[] 9)).drew)) := hide (below_next (below_alloc wr _) (below_alloc _ _)).drew
        have OA : Hid (((wr.alloc (.cells #[] 9)).drew).ownsRow wr.heap.size 9 1 (.slice (some ⟨wr.heap.size, 0, none⟩) 0 0) 0 (([] : List Bs).map vS)) := hide (made_none wr)
        have OB : Hid ((((wr.alloc (.cells #[] 9)).alloc (.cells #[.string (str p)] 9)).drew).ownsRow wr.heap.size 9 1 (.slice (some ⟨wr.heap.size, 0, none⟩) 0 0) 0 (([] : List Bs).map vS)) := hide (ownsRow_below (made_none wr) (below_alloc _ _).drew)
        have OC : Hid ((((wr.alloc (.cells #[.string (str p)] 9)).alloc (.cells #[] 9)).drew).ownsRow wr.heap.size 9 1 (.slice (some ⟨wr.heap.size + 1, 0, none⟩) 0 0) 0 (([] : List Bs).map vS)) := hide (by have := made_none (wr.alloc (.cells #[.string (str p)] 9)); rw [show (wr.alloc (.cells #[.string (str p)] 9)).heap.size = wr.heap.size + 1 by simp] at this; exact ownsRow_mono this (by omega))
        have RNB : Hid (ReadsS (((wr.alloc (.cells #[] 9)).alloc (.cells #[.string (str p)] 9)).drew) (some ⟨wr.heap.size + 1, 0, none⟩) [p]) := hide (by have := reads_name (wr.alloc (.cells #[] 9)) p; rw [show (wr.alloc (.cells #[] 9)).heap.size = wr.heap.size + 1 by simp] at this; exact this)
        have RNC : Hid (ReadsS (((wr.alloc (.cells #[.string (str p)] 9)).alloc (.cells #[] 9)).drew) (some ⟨wr.heap.size, 0, none⟩) [p]) := hide ((reads_name wr p).below (below_alloc _ _).drew)
        have HNB : Hid (wr.heap.size + 1 ≠ wr.heap.size) := hide (by omega)
        have HNC : Hid (wr.heap.size ≠ wr.heap.size + 1) := hide (by omega)
        have HBA : Hid (wr.heap.size ≤ wr.heap.size) := hide (Nat.le_refl _)
        have HBB : Hid (wr.heap.size ≤ wr.heap.size) := hide (Nat.le_refl _)
        have HBC : Hid (wr.heap.size ≤ wr.heap.size + 1) := hide (by omega)
        have htk : Hid ((ps.take k).length = k) := hide (by rw [List.length_take]; omega)
        have hk00 : Hid (0 + k = k) := hide (by omega)
        have hdk : Hid ((ps.drop k).length = 0) := hide (by rw [List.length_drop]; omega)
        have hN3 : Hid (k + 1 + 0 = ps.length + 1) := hide (by omega)
        have RTA : Hid (ReadsS ((wr.alloc (.cells #[] 9)).drew) (some ⟨g, 0, none⟩) (ps.take k)) := hide ((HR.out.below BSA.out).take k)
        have RTB : Hid (ReadsS (((wr.alloc (.cells #[] 9)).alloc (.cells #[.string (str p)] 9)).drew) (some ⟨g, 0, none⟩) (ps.take k)) := hide ((HR.out.below BSB.out).take k)
        have RTC : Hid (ReadsS (((wr.alloc (.cells #[.string (str p)] 9)).alloc (.cells #[] 9)).drew) (some ⟨g, 0, none⟩) (ps.take k)) := hide ((HR.out.below BSC.out).take k)
        have RD : Hid (∀ u : World, Below wr.heap.size wr u → ReadsS u (some ⟨g, 0, none⟩) (ps.drop k)) := hide (fun u hu => by rw [List.drop_eq_nil_of_le (by omega)]; exact ReadsS.nil _ _)
        have hm0 : 0 + k ≤ maxLen := by unfold maxLen; omega
        have hm0' : (0 + k) * 16 ≤ 140737488355328 := by omega
        have hm1 : k + 1 ≤ maxLen := by unfold maxLen; omega
        have hm1' : (k + 1) * 16 ≤ 140737488355328 := by omega
        have hm2 : k + 1 + 0 ≤ maxLen := by unfold maxLen; omega
        have hm2' : (k + 1 + 0) * 16 ≤ 140737488355328 := by omega
        clear hkn
        go_wp2_with fail
        go_region_law
          ((first
            | (refine step_appS (by rfl) (.tmp 20) (.tmp 23) 83 (by rfl) wr.heap.size 9 i1 Tryz.underlying83 ki kz0 kz1 kz2 (some ⟨wr.heap.size + 1, 0, none⟩) 0 0 [] (by rfl) OC.out (some ⟨g, 0, none⟩) k k (ps.take k) (by rfl) htk.out RTC.out k hk00.out hm0 hm0' BSC.out.size ?_; intro av3 cv3 w3 hown3 hk3; have RN3 := hide (keep_name hk3 HNC.out RNC.out); have BW3 := hide (apd_step BSC.out hk3 HBC.out); have O3 := hide hown3; clear hown3 hk3)
            | (refine step_appS (by rfl) (.tmp 20) (.tmp 23) 83 (by rfl) wr.heap.size 9 i1 Tryz.underlying83 ki kz0 kz1 kz2 (some ⟨wr.heap.size, 0, none⟩) 0 0 [] (by rfl) OB.out (some ⟨g, 0, none⟩) k k (ps.take k) (by rfl) htk.out RTB.out k hk00.out hm0 hm0' BSB.out.size ?_; intro av3 cv3 w3 hown3 hk3; have RN3 := hide (keep_name hk3 HNB.out RNB.out); have BW3 := hide (apd_step BSB.out hk3 HBB.out); have O3 := hide hown3; clear hown3 hk3)
            | (refine step_appS (by rfl) (.tmp 20) (.tmp 23) 83 (by rfl) wr.heap.size 9 i1 Tryz.underlying83 ki kz0 kz1 kz2 (some ⟨wr.heap.size, 0, none⟩) 0 0 [] (by rfl) OA.out (some ⟨g, 0, none⟩) k k (ps.take k) (by rfl) htk.out RTA.out k hk00.out hm0 hm0' BSA.out.size ?_; intro av3 cv3 w3 hown3 hk3; have BW3 := hide (apd_step BSA.out hk3 HBA.out); have O3 := hide hown3; clear hown3 hk3)
            | (refine step_appS (by rfl) (.tmp 24) (.tmp 26) 83 (by rfl) wr.heap.size 9 i1 Tryz.underlying83 ki kz0 kz1 kz2 av3 k cv3 (([] : List Bs) ++ ps.take k) (by rfl) O3.out (some ⟨wr.heap.size, 0, none⟩) 1 1 [p] (by rfl) rfl RN3.out (k + 1) rfl hm1 hm1' BW3.out.size ?_; intro av4 cv4 w4 hown4 hk4; have BW4 := hide (apd_step2 BW3.out hk4 O3.out); have O4 := hide hown4; clear hown4 hk4)
            | (refine step_appS (by rfl) (.tmp 24) (.tmp 26) 83 (by rfl) wr.heap.size 9 i1 Tryz.underlying83 ki kz0 kz1 kz2 av3 k cv3 (([] : List Bs) ++ ps.take k) (by rfl) O3.out (some ⟨wr.heap.size + 1, 0, none⟩) 1 1 [p] (by rfl) rfl RN3.out (k + 1) rfl hm1 hm1' BW3.out.size ?_; intro av4 cv4 w4 hown4 hk4; have BW4 := hide (apd_step2 BW3.out hk4 O3.out); have O4 := hide hown4; clear hown4 hk4)
            | (refine step_appS (by rfl) (.tmp 24) (.tmp 26) 83 (by rfl) wr.heap.size 9 i1 Tryz.underlying83 ki kz0 kz1 kz2 av3 k cv3 (([] : List Bs) ++ ps.take k) (by rfl) (ownsRow_below O3.out (below_alloc w3 (.cells #[.string (str p)] 9))) (some ⟨w3.heap.size, 0, none⟩) 1 1 [p] (by rfl) rfl (reads_name w3 p) (k + 1) rfl hm1 hm1' (below_next BW3.out (below_alloc w3 (.cells #[.string (str p)] 9))).size ?_; intro av4 cv4 w4 hown4 hk4; have BW4 := hide (apd_step2 (below_next BW3.out (below_alloc w3 (.cells #[.string (str p)] 9))) hk4 O3.out); have O4 := hide hown4; clear hown4 hk4)
            | (refine step_appS (by rfl) (.tmp 27) (.tmp 30) 83 (by rfl) wr.heap.size 9 i1 Tryz.underlying83 ki kz0 kz1 kz2 av4 (k + 1) cv4 ((([] : List Bs) ++ ps.take k) ++ [p]) (by rfl) O4.out (some ⟨g, 0, none⟩) 0 0 (ps.drop k) (by rfl) hdk.out (RD.out _ BW4.out) (ps.length + 1) hN3.out hm2 hm2' BW4.out.size ?_; intro av5 cv5 w5 hown5 hk5; have BW5 := hide (apd_step2 BW4.out hk5 O4.out); have O5 := hide hown5; clear hown5 hk5)))
        all_goals
          go_wp2_with fail
          go_ret
          exact ⟨av5, cv5, by rw [HLen.out]; rfl, by rw [HLen.out]; exact put_own O5.out HPut.out HLen.out, BW5.out⟩
      · have hck2 : ¬ c = k := hck
        have HPut := hide (show putS ps p = ps.take k ++ p :: ps.drop k from by unfold putS; rw [HLk.out])
        have HLen := hide (putS_len ps p)
        have BSA : Hid (Below wr.heap.size wr ((wr.alloc (.cells #[] 9)).drew)) := hide (below_alloc wr _).drew
        have BSB : Hid (Below wr.heap.size wr (((wr.alloc (.cells #[] 9)).alloc (.cells #[.string (str p)] 9)).drew)) := hide (below_next (below_alloc wr _) (below_alloc _ _)).drew
        have BSC : Hid (Below wr.heap.size wr (((wr.alloc (.cells #[.string (str p)] 9)).alloc (.cells #[] 9)).drew)) := hide (below_next (below_alloc wr _) (below_alloc _ _)).drew
        have OA : Hid (((wr.alloc (.cells #[] 9)).drew).ownsRow wr.heap.size 9 1 (.slice (some ⟨wr.heap.size, 0, none⟩) 0 0) 0 (([] : List Bs).map vS)) := hide (made_none wr)
        have OB : Hid ((((wr.alloc (.cells #[] 9)).alloc (.cells #[.string (str p)] 9)).drew).ownsRow wr.heap.size 9 1 (.slice (some ⟨wr.heap.size, 0, none⟩) 0 0) 0 (([] : List Bs).map vS)) := hide (ownsRow_below (made_none wr) (below_alloc _ _).drew)
        have OC : Hid ((((wr.alloc (.cells #[.string (str p)] 9)).alloc (.cells #[] 9)).drew).ownsRow wr.heap.size 9 1 (.slice (some ⟨wr.heap.size + 1, 0, none⟩) 0 0) 0 (([] : List Bs).map vS)) := hide (by have := made_none (wr.alloc (.cells #[.string (str p)] 9)); rw [show (wr.alloc (.cells #[.string (str p)] 9)).heap.size = wr.heap.size + 1 by simp] at this; exact ownsRow_mono this (by omega))
        have RNB : Hid (ReadsS (((wr.alloc (.cells #[] 9)).alloc (.cells #[.string (str p)] 9)).drew) (some ⟨wr.heap.size + 1, 0, none⟩) [p]) := hide (by have := reads_name (wr.alloc (.cells #[] 9)) p; rw [show (wr.alloc (.cells #[] 9)).heap.size = wr.heap.size + 1 by simp] at this; exact this)
        have RNC : Hid (ReadsS (((wr.alloc (.cells #[.string (str p)] 9)).alloc (.cells #[] 9)).drew) (some ⟨wr.heap.size, 0, none⟩) [p]) := hide ((reads_name wr p).below (below_alloc _ _).drew)
        have HNB : Hid (wr.heap.size + 1 ≠ wr.heap.size) := hide (by omega)
        have HNC : Hid (wr.heap.size ≠ wr.heap.size + 1) := hide (by omega)
        have HBA : Hid (wr.heap.size ≤ wr.heap.size) := hide (Nat.le_refl _)
        have HBB : Hid (wr.heap.size ≤ wr.heap.size) := hide (Nat.le_refl _)
        have HBC : Hid (wr.heap.size ≤ wr.heap.size + 1) := hide (by omega)
        have htk : Hid ((ps.take k).length = k) := hide (by rw [List.length_take]; omega)
        have hk00 : Hid (0 + k = k) := hide (by omega)
        have hdk : Hid ((ps.drop k).length = (ps.length - k)) := hide (by rw [List.length_drop])
        have hN3 : Hid (k + 1 + (ps.length - k) = ps.length + 1) := hide (by omega)
        have RTA : Hid (ReadsS ((wr.alloc (.cells #[] 9)).drew) (some ⟨g, 0, none⟩) (ps.take k)) := hide ((HR.out.below BSA.out).take k)
        have RTB : Hid (ReadsS (((wr.alloc (.cells #[] 9)).alloc (.cells #[.string (str p)] 9)).drew) (some ⟨g, 0, none⟩) (ps.take k)) := hide ((HR.out.below BSB.out).take k)
        have RTC : Hid (ReadsS (((wr.alloc (.cells #[.string (str p)] 9)).alloc (.cells #[] 9)).drew) (some ⟨g, 0, none⟩) (ps.take k)) := hide ((HR.out.below BSC.out).take k)
        have RD : Hid (∀ u : World, Below wr.heap.size wr u → ReadsS u (some ⟨g, k, none⟩) (ps.drop k)) := hide (fun u hu => (HR.out.below hu).drop k)
        have hm0 : 0 + k ≤ maxLen := by unfold maxLen; omega
        have hm0' : (0 + k) * 16 ≤ 140737488355328 := by omega
        have hm1 : k + 1 ≤ maxLen := by unfold maxLen; omega
        have hm1' : (k + 1) * 16 ≤ 140737488355328 := by omega
        have hm2 : k + 1 + (ps.length - k) ≤ maxLen := by unfold maxLen; omega
        have hm2' : (k + 1 + (ps.length - k)) * 16 ≤ 140737488355328 := by omega
        go_wp2_with fail
        go_region_law
          ((first
            | (refine step_appS (by rfl) (.tmp 20) (.tmp 23) 83 (by rfl) wr.heap.size 9 i1 Tryz.underlying83 ki kz0 kz1 kz2 (some ⟨wr.heap.size + 1, 0, none⟩) 0 0 [] (by rfl) OC.out (some ⟨g, 0, none⟩) k c (ps.take k) (by rfl) htk.out RTC.out k hk00.out hm0 hm0' BSC.out.size ?_; intro av3 cv3 w3 hown3 hk3; have RN3 := hide (keep_name hk3 HNC.out RNC.out); have BW3 := hide (apd_step BSC.out hk3 HBC.out); have O3 := hide hown3; clear hown3 hk3)
            | (refine step_appS (by rfl) (.tmp 20) (.tmp 23) 83 (by rfl) wr.heap.size 9 i1 Tryz.underlying83 ki kz0 kz1 kz2 (some ⟨wr.heap.size, 0, none⟩) 0 0 [] (by rfl) OB.out (some ⟨g, 0, none⟩) k c (ps.take k) (by rfl) htk.out RTB.out k hk00.out hm0 hm0' BSB.out.size ?_; intro av3 cv3 w3 hown3 hk3; have RN3 := hide (keep_name hk3 HNB.out RNB.out); have BW3 := hide (apd_step BSB.out hk3 HBB.out); have O3 := hide hown3; clear hown3 hk3)
            | (refine step_appS (by rfl) (.tmp 20) (.tmp 23) 83 (by rfl) wr.heap.size 9 i1 Tryz.underlying83 ki kz0 kz1 kz2 (some ⟨wr.heap.size, 0, none⟩) 0 0 [] (by rfl) OA.out (some ⟨g, 0, none⟩) k c (ps.take k) (by rfl) htk.out RTA.out k hk00.out hm0 hm0' BSA.out.size ?_; intro av3 cv3 w3 hown3 hk3; have BW3 := hide (apd_step BSA.out hk3 HBA.out); have O3 := hide hown3; clear hown3 hk3)
            | (refine step_appS (by rfl) (.tmp 24) (.tmp 26) 83 (by rfl) wr.heap.size 9 i1 Tryz.underlying83 ki kz0 kz1 kz2 av3 k cv3 (([] : List Bs) ++ ps.take k) (by rfl) O3.out (some ⟨wr.heap.size, 0, none⟩) 1 1 [p] (by rfl) rfl RN3.out (k + 1) rfl hm1 hm1' BW3.out.size ?_; intro av4 cv4 w4 hown4 hk4; have BW4 := hide (apd_step2 BW3.out hk4 O3.out); have O4 := hide hown4; clear hown4 hk4)
            | (refine step_appS (by rfl) (.tmp 24) (.tmp 26) 83 (by rfl) wr.heap.size 9 i1 Tryz.underlying83 ki kz0 kz1 kz2 av3 k cv3 (([] : List Bs) ++ ps.take k) (by rfl) O3.out (some ⟨wr.heap.size + 1, 0, none⟩) 1 1 [p] (by rfl) rfl RN3.out (k + 1) rfl hm1 hm1' BW3.out.size ?_; intro av4 cv4 w4 hown4 hk4; have BW4 := hide (apd_step2 BW3.out hk4 O3.out); have O4 := hide hown4; clear hown4 hk4)
            | (refine step_appS (by rfl) (.tmp 24) (.tmp 26) 83 (by rfl) wr.heap.size 9 i1 Tryz.underlying83 ki kz0 kz1 kz2 av3 k cv3 (([] : List Bs) ++ ps.take k) (by rfl) (ownsRow_below O3.out (below_alloc w3 (.cells #[.string (str p)] 9))) (some ⟨w3.heap.size, 0, none⟩) 1 1 [p] (by rfl) rfl (reads_name w3 p) (k + 1) rfl hm1 hm1' (below_next BW3.out (below_alloc w3 (.cells #[.string (str p)] 9))).size ?_; intro av4 cv4 w4 hown4 hk4; have BW4 := hide (apd_step2 (below_next BW3.out (below_alloc w3 (.cells #[.string (str p)] 9))) hk4 O3.out); have O4 := hide hown4; clear hown4 hk4)
            | (refine step_appS (by rfl) (.tmp 27) (.tmp 30) 83 (by rfl) wr.heap.size 9 i1 Tryz.underlying83 ki kz0 kz1 kz2 av4 (k + 1) cv4 ((([] : List Bs) ++ ps.take k) ++ [p]) (by rfl) O4.out (some ⟨g, k, none⟩) (ps.length - k) (c - k) (ps.drop k) (by rfl) hdk.out (RD.out _ BW4.out) (ps.length + 1) hN3.out hm2 hm2' BW4.out.size ?_; intro av5 cv5 w5 hown5 hk5; have BW5 := hide (apd_step2 BW4.out hk5 O4.out); have O5 := hide hown5; clear hown5 hk5)))
        all_goals
          go_wp2_with fail
          go_ret
          exact ⟨av5, cv5, by rw [HLen.out]; rfl, by rw [HLen.out]; exact put_own O5.out HPut.out HLen.out, BW5.out⟩
set_option maxRecDepth 100000 in
set_option maxHeartbeats 12800000 in
theorem l8Put_nil (p : Bs) (w : World) :
    Calls Tryz.prog 120 #[.slice none 0 0, .string (str p)] w fun r w' => ∃ av cv, r = .returned (.slice av (putS [] p).length cv) ∧ OwnS w.heap.size w' (.slice av (putS [] p).length cv) (putS [] p) ∧ Below w.heap.size w w' := by
  obtain ⟨i1, ki, kz0, kz1, kz2⟩ := info_parts infoS
  obtain ⟨ps, hps⟩ : ∃ ps : List Bs, ps = [] := ⟨_, rfl⟩
  obtain ⟨k, hk⟩ : ∃ k : Nat, k = 0 := ⟨_, rfl⟩
  rw [← hps]
  have hpl : ps.length = 0 := by rw [hps]; rfl
  have HLk := hide (show lowS ps p = k from by rw [hps, hk]; rfl)
  have HR := hide (show ReadsS w none ps from by rw [hps]; exact ReadsS.nil _ _)
  clear hps
  have HPut := hide (show putS ps p = ps.take k ++ p :: ps.drop k from by unfold putS; rw [HLk.out])
  have HLen := hide (putS_len ps p)
  have BSA : Hid (Below w.heap.size w ((w.alloc (.cells #[] 9)).drew)) := hide (below_alloc w _).drew
  have BSB : Hid (Below w.heap.size w (((w.alloc (.cells #[] 9)).alloc (.cells #[.string (str p)] 9)).drew)) := hide (below_next (below_alloc w _) (below_alloc _ _)).drew
  have BSC : Hid (Below w.heap.size w (((w.alloc (.cells #[.string (str p)] 9)).alloc (.cells #[] 9)).drew)) := hide (below_next (below_alloc w _) (below_alloc _ _)).drew
  have OA : Hid (((w.alloc (.cells #[] 9)).drew).ownsRow w.heap.size 9 1 (.slice (some ⟨w.heap.size, 0, none⟩) 0 0) 0 (([] : List Bs).map vS)) := hide (made_none w)
  have OB : Hid ((((w.alloc (.cells #[] 9)).alloc (.cells #[.string (str p)] 9)).drew).ownsRow w.heap.size 9 1 (.slice (some ⟨w.heap.size, 0, none⟩) 0 0) 0 (([] : List Bs).map vS)) := hide (ownsRow_below (made_none w) (below_alloc _ _).drew)
  have OC : Hid ((((w.alloc (.cells #[.string (str p)] 9)).alloc (.cells #[] 9)).drew).ownsRow w.heap.size 9 1 (.slice (some ⟨w.heap.size + 1, 0, none⟩) 0 0) 0 (([] : List Bs).map vS)) := hide (by have := made_none (w.alloc (.cells #[.string (str p)] 9)); rw [show (w.alloc (.cells #[.string (str p)] 9)).heap.size = w.heap.size + 1 by simp] at this; exact ownsRow_mono this (by omega))
  have RNB : Hid (ReadsS (((w.alloc (.cells #[] 9)).alloc (.cells #[.string (str p)] 9)).drew) (some ⟨w.heap.size + 1, 0, none⟩) [p]) := hide (by have := reads_name (w.alloc (.cells #[] 9)) p; rw [show (w.alloc (.cells #[] 9)).heap.size = w.heap.size + 1 by simp] at this; exact this)
  have RNC : Hid (ReadsS (((w.alloc (.cells #[.string (str p)] 9)).alloc (.cells #[] 9)).drew) (some ⟨w.heap.size, 0, none⟩) [p]) := hide ((reads_name w p).below (below_alloc _ _).drew)
  have HNB : Hid (w.heap.size + 1 ≠ w.heap.size) := hide (by omega)
  have HNC : Hid (w.heap.size ≠ w.heap.size + 1) := hide (by omega)
  have HBA : Hid (w.heap.size ≤ w.heap.size) := hide (Nat.le_refl _)
  have HBB : Hid (w.heap.size ≤ w.heap.size) := hide (Nat.le_refl _)
  have HBC : Hid (w.heap.size ≤ w.heap.size + 1) := hide (by omega)
  have htk : Hid ((ps.take k).length = 0) := hide (by rw [List.length_take]; omega)
  have hk00 : Hid (0 + 0 = 0) := hide (by omega)
  have hdk : Hid ((ps.drop k).length = 0) := hide (by rw [List.length_drop]; omega)
  have hN3 : Hid (0 + 1 + 0 = ps.length + 1) := hide (by omega)
  have RTA : Hid (ReadsS ((w.alloc (.cells #[] 9)).drew) none (ps.take k)) := hide ((HR.out.below BSA.out).take k)
  have RTB : Hid (ReadsS (((w.alloc (.cells #[] 9)).alloc (.cells #[.string (str p)] 9)).drew) none (ps.take k)) := hide ((HR.out.below BSB.out).take k)
  have RTC : Hid (ReadsS (((w.alloc (.cells #[.string (str p)] 9)).alloc (.cells #[] 9)).drew) none (ps.take k)) := hide ((HR.out.below BSC.out).take k)
  have RD : Hid (∀ u : World, Below w.heap.size w u → ReadsS u none (ps.drop k)) := hide (fun u hu => by rw [List.drop_eq_nil_of_le (by omega)]; exact ReadsS.nil _ _)
  have hm0 : 0 + 0 ≤ maxLen := by unfold maxLen; omega
  have hm0' : (0 + 0) * 16 ≤ 140737488355328 := by omega
  have hm1 : 0 + 1 ≤ maxLen := by unfold maxLen; omega
  have hm1' : (0 + 1) * 16 ≤ 140737488355328 := by omega
  have hm2 : 0 + 1 + 0 ≤ maxLen := by unfold maxLen; omega
  have hm2' : (0 + 1 + 0) * 16 ≤ 140737488355328 := by omega
  rw [hk] at *
  clear hk hpl
  go_enter Tryz.func120, Tryz.ntmps120
  go_wp2_with fail
  go_loopw [5] (fun i w9 => i = .int .i64 0 ∧ w9 = w) (fun _ _ => 0)
  case atStart => exact ⟨rfl, rfl⟩
  case round =>
    obtain ⟨rfl, hw9⟩ := hrel
    subst hw9
    go_wp2_with fail
    go_region_law
      ((first
        | (refine step_appS (by rfl) (.tmp 20) (.tmp 23) 83 (by rfl) wr.heap.size 9 i1 Tryz.underlying83 ki kz0 kz1 kz2 (some ⟨wr.heap.size + 1, 0, none⟩) 0 0 [] (by rfl) OC.out none 0 0 (ps.take 0) (by rfl) htk.out RTC.out 0 rfl hm0 hm0' BSC.out.size ?_; intro av3 cv3 w3 hown3 hk3; have RN3 := hide (keep_name hk3 HNC.out RNC.out); have BW3 := hide (apd_step BSC.out hk3 HBC.out); have O3 := hide hown3; clear hown3 hk3)
        | (refine step_appS (by rfl) (.tmp 20) (.tmp 23) 83 (by rfl) wr.heap.size 9 i1 Tryz.underlying83 ki kz0 kz1 kz2 (some ⟨wr.heap.size, 0, none⟩) 0 0 [] (by rfl) OB.out none 0 0 (ps.take 0) (by rfl) htk.out RTB.out 0 rfl hm0 hm0' BSB.out.size ?_; intro av3 cv3 w3 hown3 hk3; have RN3 := hide (keep_name hk3 HNB.out RNB.out); have BW3 := hide (apd_step BSB.out hk3 HBB.out); have O3 := hide hown3; clear hown3 hk3)
        | (refine step_appS (by rfl) (.tmp 20) (.tmp 23) 83 (by rfl) wr.heap.size 9 i1 Tryz.underlying83 ki kz0 kz1 kz2 (some ⟨wr.heap.size, 0, none⟩) 0 0 [] (by rfl) OA.out none 0 0 (ps.take 0) (by rfl) htk.out RTA.out 0 rfl hm0 hm0' BSA.out.size ?_; intro av3 cv3 w3 hown3 hk3; have BW3 := hide (apd_step BSA.out hk3 HBA.out); have O3 := hide hown3; clear hown3 hk3)
        | (refine step_appS (by rfl) (.tmp 24) (.tmp 26) 83 (by rfl) wr.heap.size 9 i1 Tryz.underlying83 ki kz0 kz1 kz2 av3 0 cv3 (([] : List Bs) ++ ps.take 0) (by rfl) O3.out (some ⟨wr.heap.size, 0, none⟩) 1 1 [p] (by rfl) rfl RN3.out (0 + 1) rfl hm1 hm1' BW3.out.size ?_; intro av4 cv4 w4 hown4 hk4; have BW4 := hide (apd_step2 BW3.out hk4 O3.out); have O4 := hide hown4; clear hown4 hk4)
        | (refine step_appS (by rfl) (.tmp 24) (.tmp 26) 83 (by rfl) wr.heap.size 9 i1 Tryz.underlying83 ki kz0 kz1 kz2 av3 0 cv3 (([] : List Bs) ++ ps.take 0) (by rfl) O3.out (some ⟨wr.heap.size + 1, 0, none⟩) 1 1 [p] (by rfl) rfl RN3.out (0 + 1) rfl hm1 hm1' BW3.out.size ?_; intro av4 cv4 w4 hown4 hk4; have BW4 := hide (apd_step2 BW3.out hk4 O3.out); have O4 := hide hown4; clear hown4 hk4)
        | (refine step_appS (by rfl) (.tmp 24) (.tmp 26) 83 (by rfl) wr.heap.size 9 i1 Tryz.underlying83 ki kz0 kz1 kz2 av3 0 cv3 (([] : List Bs) ++ ps.take 0) (by rfl) (ownsRow_below O3.out (below_alloc w3 (.cells #[.string (str p)] 9))) (some ⟨w3.heap.size, 0, none⟩) 1 1 [p] (by rfl) rfl (reads_name w3 p) (0 + 1) rfl hm1 hm1' (below_next BW3.out (below_alloc w3 (.cells #[.string (str p)] 9))).size ?_; intro av4 cv4 w4 hown4 hk4; have BW4 := hide (apd_step2 (below_next BW3.out (below_alloc w3 (.cells #[.string (str p)] 9))) hk4 O3.out); have O4 := hide hown4; clear hown4 hk4)
        | (refine step_appS (by rfl) (.tmp 27) (.tmp 30) 83 (by rfl) wr.heap.size 9 i1 Tryz.underlying83 ki kz0 kz1 kz2 av4 (0 + 1) cv4 ((([] : List Bs) ++ ps.take 0) ++ [p]) (by rfl) O4.out none 0 0 (ps.drop 0) (by rfl) hdk.out (RD.out _ BW4.out) (ps.length + 1) hN3.out hm2 hm2' BW4.out.size ?_; intro av5 cv5 w5 hown5 hk5; have BW5 := hide (apd_step2 BW4.out hk5 O4.out); have O5 := hide hown5; clear hown5 hk5)))
    all_goals
      go_wp2_with fail
      go_ret
      exact ⟨av5, cv5, by rw [HLen.out]; rfl, by rw [HLen.out]; exact put_own O5.out HPut.out HLen.out, BW5.out⟩
theorem l8Put_any (a : Option Addr) (c n : Nat) (ps : List Bs) (p : Bs) (w : World) {B : Nat} (h : OwnS B w (.slice a n c) ps) (hn : n = ps.length) (hl : ps.length ≤ 1048576) :
    Calls Tryz.prog 120 #[.slice a n c, .string (str p)] w fun r w' => ∃ av cv, r = .returned (.slice av (putS ps p).length cv) ∧ OwnS w.heap.size w' (.slice av (putS ps p).length cv) (putS ps p) ∧ Below w.heap.size w w' := by
  subst hn
  have hr := h.reads
  have hc := h.cap rfl
  rcases h.2 with ⟨h', hh⟩ | ⟨g, cap, cur, h', -⟩
  · simp only [Value.slice.injEq] at h'
    obtain ⟨rfl, h0, rfl⟩ := h'
    obtain rfl : ps = [] := List.eq_nil_of_length_eq_zero h0
    exact l8Put_nil p w
  · simp only [Value.slice.injEq, true_and] at h'
    obtain ⟨rfl, rfl⟩ := h'
    exact l8Put_some g c ps p w hr hc hl
end Go.Proofs.YtebgfaohhhgdpaaGreat

