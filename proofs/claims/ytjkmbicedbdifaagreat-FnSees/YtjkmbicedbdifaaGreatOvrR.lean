/-
  The model's LookOver and ListOver.
-/
import Derived.Test.YtjkmbicedbdifaaGreatOvrQ
import Derived.Test.YtjkmbicedbdifaaGreatSeeT
namespace Go.Proofs.YtjkmbicedbdifaaGreat
open Go.RowKit Go.Maps
set_option linter.unusedVariables false
attribute [local go_sem ↓] Go.wp_at_zero Go.wp_at_succ

theorem boxR_two {w : World} {B : Nat} {u v : Value} (h : Box w B u v) (u' v' : Value) : Box ((w.setCell ⟨B, 0, none⟩ u').setCell ⟨B, 1, none⟩ v') B u' v' := by
  obtain ⟨⟨m0, m1⟩, m2, m3⟩ := h
  refine ⟨⟨?_, ?_⟩, ?_, ?_⟩
  · rw [cell_set_other (by simp)]; exact cell_set_same m0
  · exact cell_set_same (u := v) (by rw [cell_set_other (by simp)]; exact m1)
  · rw [World.frozen?_setCell, World.frozen?_setCell]; exact m2
  · rw [World.frozen?_setCell, World.frozen?_setCell]; exact m3
set_option maxRecDepth 100000 in
set_option maxHeartbeats 3200000 in
theorem specLookOver_any (a : Option Addr) (c n : Nat) (ls : List (List En)) (p : Bs) (w : World) (h : RdL w a ls) (hn : n = ls.length) (hl : ls.length ≤ 1048576) (hs : SmallL ls) (hg : ∀ es ∈ ls, layFault es = layFaultP es) (hpl : p.length ≤ 1048576) :
    Calls Tryz.prog 53 #[.slice a n c, .string (str p)] w fun r w' => ∃ av cv, r = .returned (.agg #[.int .i64 (plcC ls p), .slice av (lookL ls p).length cv]) ∧ (∀ e, lookL ls p = [e] → ∃ b, av = some ⟨b, 0, none⟩ ∧ b < w'.heap.size ∧ w'.cell? ⟨b, 1, none⟩ = some (.int .i64 e.kind)) ∧ Below w.heap.size w w' := by
  subst hn
  have X0 := hide (Box.new w (.int .i64 0) (.slice none 0 0) 36)
  have B0 := hide (below_alloc w (.cells #[.int .i64 0, .slice none 0 0] 36))
  have HR := hide h
  have HAS := hide (l8Asked_any a c ls.length ls p _ (h.below B0.out) rfl hl hs hg hpl)
  clear h hs hg
  by_cases hz : askL ls p = 0
  · obtain ⟨h4, hRs, hp⟩ := askL_right hz
    rw [hz] at HAS
    cases hs : seenL ls p with
    | none =>
      obtain ⟨hc, -, hv⟩ := plc_none hz hs
      have HC := hide (And.intro hc hv)
      have HLK := hide (fun u (hu : Below w.heap.size w u) => l8Look_none a c ls.length ls p u (HR.out.below hu) rfl h4 hRs hp hpl hs)
      clear hs hc hv hz hRs
      go_enter Tryz.func53, Tryz.ntmps53
      go_wp2_with fail
      refine HAS.out.mono ?_
      rintro r w1 ⟨rfl, hb1⟩
      have B1 := hide (below_next B0.out hb1)
      have X1 := hide (X0.out.below hb1)
      clear hb1
      go_wp2_with fail
      refine (HLK.out w1 B1.out).mono ?_
      rintro r w2 ⟨rfl, hb2⟩
      have BA := hide (below_alloc w2 (.cells #[.string ⟨#[]⟩, .int .i64 0, .int .i64 0, .slice none 0 0] 40))
      have B2 := hide (below_next B1.out (below_next hb2 BA.out))
      obtain ⟨⟨t0, t1⟩, t2, t3⟩ := X1.out.below (below_next hb2 BA.out)
      clear hb2
      go_wp2_with fail
      rw [HC.out.1, HC.out.2]
      exact bodyPost_ret (v := .agg #[.int .i64 4, .slice none 0 0]) (by simp [results, Tryz.results53, go_sem, t0, t1]) rfl ⟨none, 0, rfl, fun e he => (by cases he), (B2.out.setCell (p := ⟨w.heap.size, 0, none⟩) (Nat.le_refl _) _).setCell (p := ⟨w.heap.size, 1, none⟩) (Nat.le_refl _) _⟩
    | some i =>
      obtain ⟨-, e, he, -⟩ := seen_some (show seenG (seeL ls) p 4 = some i from hs)
      obtain ⟨hc, -, hv⟩ := plc_some hz hs he
      have HC := hide (And.intro hc hv)
      have HLK := hide (fun u (hu : Below w.heap.size w u) => l8Look_some a c ls.length ls p u (HR.out.below hu) rfl h4 hRs hp hpl i e hs he)
      clear hs hc hv hz hRs he
      generalize asT e = E at *
      go_enter Tryz.func53, Tryz.ntmps53
      go_wp2_with fail
      refine HAS.out.mono ?_
      rintro r w1 ⟨rfl, hb1⟩
      have B1 := hide (below_next B0.out hb1)
      have X1 := hide (X0.out.below hb1)
      clear hb1
      go_wp2_with fail
      refine (HLK.out w1 B1.out).mono ?_
      rintro r w2 ⟨x, xc, rfl, -, hb2⟩
      have BA := hide (below_alloc w2 (.cells #[.string (str E.path), .int .i64 E.kind, .int .i64 E.size, .slice x E.chunks.length xc] 40))
      have F2 := hide (Four.new w2 (.string (str E.path)) (.int .i64 E.kind) (.int .i64 E.size) (.slice x E.chunks.length xc) 40)
      have B2 := hide (below_next B1.out (below_next hb2 BA.out))
      have X2 := hide (X1.out.below (below_next hb2 BA.out))
      clear hb2
      have hlt : w.heap.size < (w2.alloc (.cells #[.string (str E.path), .int .i64 E.kind, .int .i64 E.size, .slice x E.chunks.length xc] 40)).heap.size := X2.out.1.lt
      obtain ⟨f0, f1, f2, f3⟩ := F2.out
      go_upto_region 7 with fail
      clear f0 f1 f2 f3
      generalize w2.alloc (.cells #[.string (str E.path), .int .i64 E.kind, .int .i64 E.size, .slice x E.chunks.length xc] 40) = W2 at *
      generalize w2.heap.size = b2 at *
      obtain ⟨f0, f1, f2, f3⟩ := F2.out
      obtain ⟨⟨u0, u1⟩, u2, u3⟩ := X2.out
      obtain ⟨⟨t0, t1⟩, t2, t3⟩ := X2.out.below (below_alloc W2 (.cells #[.string (str E.path), .int .i64 E.kind, .int .i64 E.size, .slice x E.chunks.length xc] 40))
      have XV := hide (boxR_two X2.out (.int .i64 0) (.slice (some ⟨W2.heap.size, 0, none⟩) 1 1))
      have BV := hide ((B2.out.setCell (p := ⟨w.heap.size, 0, none⟩) (Nat.le_refl _) (.int .i64 0)).setCell (p := ⟨w.heap.size, 1, none⟩) (Nat.le_refl _) (.slice (some ⟨W2.heap.size, 0, none⟩) 1 1))
      have hsz : ((W2.setCell ⟨w.heap.size, 0, none⟩ (.int .i64 0)).setCell ⟨w.heap.size, 1, none⟩ (.slice (some ⟨W2.heap.size, 0, none⟩) 1 1)).heap.size = W2.heap.size := by simp [World.setCell]
      have F3 := hide (Four.new ((W2.setCell ⟨w.heap.size, 0, none⟩ (.int .i64 0)).setCell ⟨w.heap.size, 1, none⟩ (.slice (some ⟨W2.heap.size, 0, none⟩) 1 1)) (.string (str E.path)) (.int .i64 E.kind) (.int .i64 E.size) (.slice x E.chunks.length xc) 40)
      rw [hsz] at F3
      obtain ⟨⟨v0, v1⟩, v2, v3⟩ := XV.out.below (below_alloc ((W2.setCell ⟨w.heap.size, 0, none⟩ (.int .i64 0)).setCell ⟨w.heap.size, 1, none⟩ (.slice (some ⟨W2.heap.size, 0, none⟩) 1 1)) (.cells #[.string (str E.path), .int .i64 E.kind, .int .i64 E.size, .slice x E.chunks.length xc] 40))
      have B3 := hide (below_next BV.out (below_alloc ((W2.setCell ⟨w.heap.size, 0, none⟩ (.int .i64 0)).setCell ⟨w.heap.size, 1, none⟩ (.slice (some ⟨W2.heap.size, 0, none⟩) 1 1)) (.cells #[.string (str E.path), .int .i64 E.kind, .int .i64 E.size, .slice x E.chunks.length xc] 40)))
      go_wp2_with fail
      refine bodyPost_ret (v := .agg #[.int .i64 0, .slice (some ⟨W2.heap.size, 0, none⟩) 1 1]) (by simp [results, Tryz.results53, go_sem, v0, v1]) rfl ?_
      rw [HC.out.1, HC.out.2]
      refine ⟨some ⟨W2.heap.size, 0, none⟩, 1, rfl, fun e he => ?_, B3.out⟩
      simp only [List.cons.injEq, and_true] at he
      subst he
      exact ⟨_, rfl, F3.out.lt, F3.out.2.1⟩
  · obtain ⟨hc, -, hv⟩ := plc_bad hz
    have HC := hide (And.intro hc hv)
    clear hc hv
    generalize askL ls p = F at *
    have hz2 : (F != 0) = true := by simp; exact hz
    clear hz
    go_enter Tryz.func53, Tryz.ntmps53
    go_wp2_with fail
    refine HAS.out.mono ?_
    rintro r w1 ⟨rfl, hb1⟩
    have B1 := hide (below_next B0.out hb1)
    obtain ⟨⟨t0, t1⟩, t2, t3⟩ := X0.out.below hb1
    clear hb1
    go_wp2_with fail
    rw [HC.out.1, HC.out.2]
    exact bodyPost_ret (v := .agg #[.int .i64 F, .slice none 0 0]) (by simp [results, Tryz.results53, go_sem, t0, t1]) rfl ⟨none, 0, rfl, fun e he => (by cases he), (B1.out.setCell (p := ⟨w.heap.size, 0, none⟩) (Nat.le_refl _) _).setCell (p := ⟨w.heap.size, 1, none⟩) (Nat.le_refl _) _⟩
theorem lov_cases {ls : List (List En)} {p : Bs} (hz : layersP ls = 0) (h47 : p ≠ [47]) (hc : plcC ls p = 0) {e : En} (he : findE (allE ls) p = some e) : (e.kind = 1 → lovC ls p = 9) ∧ (e.kind ≠ 1 → lovC ls p = 0 ∧ lovL ls p = namesE (allE ls) p) := by
  obtain ⟨h4, hRs⟩ := layersP_zero.1 hz
  have hfa := all_fit (rights_fit hRs)
  have hk := hfa.kind e (find_mem he).1
  simp only [treeK, decide_eq_true_eq] at hk
  have h1 : lovC ls p = if e.kind = 2 then 0 else 9 := by rw [lovC, if_neg h47, if_pos hc, he]
  refine ⟨fun hk1 => by rw [h1, hk1]; rfl, fun hk1 => ?_⟩
  have h2 : lovC ls p = 0 := by rw [h1, if_pos (by omega)]
  exact ⟨h2, by rw [lovL, if_pos h2, topQ, if_neg h47]⟩
theorem ResN.kill {q : Int} {ns : List Bs} {w w' : World} {B b : Nat} {av : Option Addr} {cv n : Nat} (hB : b < B) (hw : w.heap.size ≤ b) (hn : n = ns.length) (h : OwnS B w' (.slice av n cv) ns) (hb : Below w.heap.size w w') (u v : Value) : ResN q ns w (.returned (.agg #[.int .i64 q, .slice av n cv])) ((w'.setCell ⟨b, 0, none⟩ u).setCell ⟨b, 1, none⟩ v) := ResN.of hB hw hn h hb
set_option maxRecDepth 100000 in
set_option maxHeartbeats 3200000 in
theorem specListOver_any (a : Option Addr) (c n : Nat) (ls : List (List En)) (p : Bs) (w : World) (h : RdL w a ls) (hn : n = ls.length) (hl : ls.length ≤ 1048576) (hs : SmallL ls) (hg : ∀ es ∈ ls, layFault es = layFaultP es) (hpl : p.length ≤ 1048576) :
    Calls Tryz.prog 17 #[.slice a n c, .string (str p)] w (ResN (lovC ls p) (lovL ls p) w) := by
  subst hn
  have X0 := hide (Box.new w (.int .i64 0) (.slice none 0 0) 28)
  have B0 := hide (below_alloc w (.cells #[.int .i64 0, .slice none 0 0] 28))
  have HR := hide h
  have HLF := hide (specLayersFault_any a c ls.length ls _ (h.below B0.out) rfl hl hs hg)
  have HLO := hide (fun u (hu : Below w.heap.size w u) => specLookOver_any a c ls.length ls p u (HR.out.below hu) rfl hl hs hg hpl)
  have hs1 : ((str p).toList == [47]) = decide (p = [47]) := by rw [str_toList]; by_cases h47 : p = [47] <;> simp [h47]
  clear h hs hg
  by_cases hz : layersP ls = 0
  · obtain ⟨h4, hRs⟩ := layersP_zero.1 hz
    have HNM := hide (fun (q : Bs) (hq : q = [] ∨ faultP q = 0) (hql : q.length ≤ 1048576) u (hu : Below w.heap.size w u) => l8Names_any a c ls.length ls q u (HR.out.below hu) rfl h4 hRs hq hql)
    rw [hz] at HLF
    by_cases h47 : p = [47]
    · rw [decide_eq_true h47] at hs1
      have HC := hide (show lovC ls p = 0 ∧ lovL ls p = namesE (allE ls) [] from by
        have h1 : lovC ls p = 0 := by rw [lovC, if_pos h47]; exact hz
        exact ⟨h1, by rw [lovL, if_pos h1, topQ, if_pos h47]⟩)
      clear hz h47 hRs
      go_enter Tryz.func17, Tryz.ntmps17
      go_wp2_with fail
      refine HLF.out.mono ?_
      rintro r w1 ⟨rfl, hb1⟩
      have B1 := hide (below_next B0.out hb1)
      have X1 := hide (X0.out.below hb1)
      have hlt : w.heap.size < w1.heap.size := X1.out.1.lt
      clear hb1
      go_wp2_with fail
      refine (HNM.out [] (.inl rfl) (by simp) w1 B1.out).mono ?_
      rintro r w2 ⟨av, cv, rfl, hO, hb2⟩
      have O2 := hide hO
      have B2 := hide (below_next B1.out hb2)
      obtain ⟨⟨t0, t1⟩, t2, t3⟩ := X1.out.below hb2
      clear hO hb2
      generalize namesE (allE ls) [] = NS at *
      go_wp2_with fail
      exact bodyPost_ret (v := .agg #[.int .i64 0, .slice av NS.length cv]) (by simp [results, Tryz.results17, go_sem, t0, t1]) rfl (by rw [HC.out.1, HC.out.2]; exact ResN.kill hlt (Nat.le_refl _) rfl O2.out B2.out _ _)
    · rw [decide_eq_false h47] at hs1
      by_cases hc : plcC ls p = 0
      · obtain ⟨e, hfe, hlk⟩ := lookL_one hc
        obtain ⟨hk1, hk2⟩ := lov_cases hz h47 hc hfe
        have hpf := (ask_zero (plc_ask hc)).2
        have HPF := hide hpf
        rw [hc, hlk] at HLO
        clear hz hc hfe hlk hRs hpf
        by_cases hk : e.kind = 1
        · have hk' : (e.kind == 1) = true := by simpa using hk
          have h9 := hk1 hk
          have HC := hide (show lovC ls p = 9 ∧ lovL ls p = [] from ⟨h9, by rw [lovL, if_neg (by rw [h9]; decide)]⟩)
          clear hk1 hk2 hk h9
          go_enter Tryz.func17, Tryz.ntmps17
          go_wp2_with fail
          refine HLF.out.mono ?_
          rintro r w1 ⟨rfl, hb1⟩
          have B1 := hide (below_next B0.out hb1)
          have X1 := hide (X0.out.below hb1)
          clear hb1
          go_wp2_with fail
          refine (HLO.out w1 B1.out).mono ?_
          rintro r w2 ⟨av, cv, rfl, hk2, hb2⟩
          obtain ⟨g, rfl, hg, y1⟩ := hk2 e rfl
          have BA := hide (below_alloc w2 (.cells #[.int .i64 0, .slice (some ⟨g, 0, none⟩) 1 cv] 36))
          have y1' := (BA.out.cell (p := ⟨g, 1, none⟩) hg).trans y1
          have B2 := hide (below_next B1.out (below_next hb2 BA.out))
          obtain ⟨⟨t0, t1⟩, t2, t3⟩ := X1.out.below (below_next hb2 BA.out)
          clear hk2 hb2 y1
          go_wp2_with fail
          rw [HC.out.1, HC.out.2]
          exact bodyPost_ret (v := .agg #[.int .i64 9, .slice none 0 0]) (by simp [results, Tryz.results17, go_sem, t0, t1]) rfl (ResN.bad (Nat.le_refl _) B2.out)
        · have hk' : (e.kind == 1) = false := by simpa using hk
          have HC := hide (hk2 hk)
          clear hk1 hk2 hk
          go_enter Tryz.func17, Tryz.ntmps17
          go_wp2_with fail
          refine HLF.out.mono ?_
          rintro r w1 ⟨rfl, hb1⟩
          have B1 := hide (below_next B0.out hb1)
          have X1 := hide (X0.out.below hb1)
          clear hb1
          go_wp2_with fail
          refine (HLO.out w1 B1.out).mono ?_
          rintro r w2 ⟨av, cv, rfl, hk2, hb2⟩
          obtain ⟨g, rfl, hg, y1⟩ := hk2 e rfl
          have BA := hide (below_alloc w2 (.cells #[.int .i64 0, .slice (some ⟨g, 0, none⟩) 1 cv] 36))
          have y1' := (BA.out.cell (p := ⟨g, 1, none⟩) hg).trans y1
          have B2 := hide (below_next B1.out (below_next hb2 BA.out))
          have X2 := hide (X1.out.below (below_next hb2 BA.out))
          have hlt : w.heap.size < (w2.alloc (.cells #[.int .i64 0, .slice (some ⟨g, 0, none⟩) 1 cv] 36)).heap.size := X2.out.1.lt
          clear hk2 hb2 y1
          go_wp2_with fail
          clear y1'
          generalize w2.alloc (.cells #[.int .i64 0, .slice (some ⟨g, 0, none⟩) 1 cv] 36) = W2 at *
          refine (HNM.out p (.inr HPF.out) hpl W2 B2.out).mono ?_
          rintro r w3 ⟨av, cv, rfl, hO, hb3⟩
          have O3 := hide hO
          have B3 := hide (below_next B2.out hb3)
          obtain ⟨⟨t0, t1⟩, t2, t3⟩ := X2.out.below hb3
          clear hO hb3
          generalize namesE (allE ls) p = NS at *
          go_wp2_with fail
          exact bodyPost_ret (v := .agg #[.int .i64 0, .slice av NS.length cv]) (by simp [results, Tryz.results17, go_sem, t0, t1]) rfl (by rw [HC.out.1, HC.out.2]; exact ResN.kill hlt (Nat.le_refl _) rfl O3.out B3.out _ _)
      · have HC := hide (show lovC ls p = plcC ls p ∧ lovL ls p = [] from by
          have h1 : lovC ls p = plcC ls p := by rw [lovC, if_neg h47, if_neg hc]
          exact ⟨h1, by rw [lovL, if_neg (by rw [h1]; exact hc)]⟩)
        clear hz h47 hRs
        generalize plcC ls p = F at *
        have hz2 : (F != 0) = true := by simp; exact hc
        clear hc
        go_enter Tryz.func17, Tryz.ntmps17
        go_wp2_with fail
        refine HLF.out.mono ?_
        rintro r w1 ⟨rfl, hb1⟩
        have B1 := hide (below_next B0.out hb1)
        have X1 := hide (X0.out.below hb1)
        clear hb1
        go_wp2_with fail
        refine (HLO.out w1 B1.out).mono ?_
        rintro r w2 ⟨av, cv, rfl, hk2, hb2⟩
        generalize (lookL ls p).length = LL at *
        have BA := hide (below_alloc w2 (.cells #[.int .i64 F, .slice av LL cv] 36))
        have B2 := hide (below_next B1.out (below_next hb2 BA.out))
        obtain ⟨⟨t0, t1⟩, t2, t3⟩ := X1.out.below (below_next hb2 BA.out)
        clear hk2 hb2
        go_wp2_with fail
        rw [HC.out.1, HC.out.2]
        exact bodyPost_ret (v := .agg #[.int .i64 F, .slice none 0 0]) (by simp [results, Tryz.results17, go_sem, t0, t1]) rfl (ResN.bad (Nat.le_refl _) B2.out)
  · have HC := hide (show lovC ls p = layersP ls ∧ lovL ls p = [] from by
      have h1 : lovC ls p = layersP ls := by
        by_cases h47 : p = [47]
        · rw [lovC, if_pos h47]
        · have h2 : askL ls p = layersP ls := by rw [askL, if_neg hz]
          have h3 := (plc_bad (ls := ls) (p := p) (by rw [h2]; exact hz)).1
          rw [lovC, if_neg h47, if_neg (by rw [h3, h2]; exact hz), h3, h2]
      exact ⟨h1, by rw [lovL, if_neg (by rw [h1]; exact hz)]⟩)
    generalize layersP ls = F at *
    have hz2 : (F != 0) = true := by simp; exact hz
    clear hz
    go_enter Tryz.func17, Tryz.ntmps17
    go_wp2_with fail
    refine HLF.out.mono ?_
    rintro r w1 ⟨rfl, hb1⟩
    have B1 := hide (below_next B0.out hb1)
    obtain ⟨⟨t0, t1⟩, t2, t3⟩ := X0.out.below hb1
    clear hb1
    go_wp2_with fail
    rw [HC.out.1, HC.out.2]
    exact bodyPost_ret (v := .agg #[.int .i64 F, .slice none 0 0]) (by simp [results, Tryz.results17, go_sem, t0, t1]) rfl (ResN.bad (Nat.le_refl _) B1.out)
end Go.Proofs.YtjkmbicedbdifaaGreat
