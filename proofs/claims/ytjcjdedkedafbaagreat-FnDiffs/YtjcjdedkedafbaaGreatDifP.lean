/-
  The program's questions of what leads from one tree to another one: what is another one, what goes, which directories have one of these below them.
-/
import Derived.Test.YtjcjdedkedafbaaGreatMerR
import Derived.Test.YtjcjdedkedafbaaGreatDifL
import Derived.Test.YtjcjdedkedafbaaGreatIteH
namespace Go.Proofs.YtjcjdedkedafbaaGreat
open Go.RowKit Go.Maps
set_option linter.unusedVariables false
attribute [local go_sem ↓] Go.wp_at_zero Go.wp_at_succ

set_option maxRecDepth 100000 in
set_option maxHeartbeats 3200000 in
theorem firstSame_any (a : Option Addr) (c n : Nat) (es : List En) (e : En) (ex : Option Addr) (ec : Nat) (w : World) (h : RdI w a es) (hn : n = es.length) (hl : es.length ≤ 1048576) (hs : SmallE es) (hx : Reads .i64 w ex e.chunks) (hel : e.chunks.length ≤ 1048576) :
    Calls Tryz.prog 82 #[.slice a n c, .func (.func 34) #[.agg #[.int .i64 e.size, .slice ex e.chunks.length ec, .string (str e.path), .int .i64 e.kind]] #[]] w fun r w' => FirstI (es.find? fun y => decide (e = y)) w r ∧ Below w.heap.size w w' := by
  subst hn
  have eg : ∀ args w, (callFunc 34 args).run Tryz.prog w = .ok (.enter 34 args) w := enters_of Tryz.func34 (by kernel_rfl) rfl
  have HR := hide h
  have HS := hide hs
  have HE := hide hx
  obtain ⟨f, hf⟩ : ∃ f : En → Bool, f = fun y => decide (e = y) := ⟨_, rfl⟩
  rw [← hf]
  have HFF := hide hf
  have X0 := hide (Box4.new w (.int .i64 0) (.slice none 0 0) (.string ⟨#[]⟩) (.int .i64 0) 61)
  have B0 := hide (below_alloc w (.cells #[.int .i64 0, .slice none 0 0, .string ⟨#[]⟩, .int .i64 0] 61))
  clear h hs hx hf
  go_enter Tryz.func82, Tryz.ntmps82
  go_wp2_with fail
  generalize w.alloc (.cells #[.int .i64 0, .slice none 0 0, .string ⟨#[]⟩, .int .i64 0] 61) = W0 at *
  go_loopw [11] (fun i wr => ∃ k : Nat, k ≤ es.length ∧ i = .int .i64 k ∧ Hid (es.find? f = (es.drop k).find? f) ∧ Hid (Below W0.heap.size W0 wr)) (fun i _ => es.length - (intOf i).toNat)
  case atStart => exact ⟨0, Nat.zero_le _, rfl, hide (by simp), hide (Below.refl _ _)⟩
  case round =>
    obtain ⟨k, hk, rfl, HFi, HW0⟩ := hrel
    have HW := hide (below_next B0.out HW0.out)
    have hsz := HW.out.size
    by_cases hlt : k < es.length
    · obtain ⟨b, off, y, x, cc, rfl, hb, he, c0, c1, c2, c3, hr⟩ := (HR.out.below HW.out).at hlt
      obtain ⟨b', off', y', x', cc', hbb, hb', he', d0, d1, d2, d3, hr'⟩ := HR.out.at hlt
      simp only [Option.some.injEq, Addr.mk.injEq, and_true] at hbb
      obtain ⟨rfl, rfl⟩ := hbb
      have : y' = y := Option.some.inj (he'.symm.trans he)
      subst this
      have d1' := (HW.out.cell (p := ⟨b, off + k * 4 + 1, none⟩) hb').trans d1
      rw [c1] at d1'
      simp only [Option.some.injEq, Value.slice.injEq, true_and] at d1'
      obtain ⟨rfl, rfl⟩ := d1'
      have hsm := HS.out y' (List.mem_of_getElem? he)
      have HX := hide he
      have HRc := hide hr'
      clear he hr hr' he' d0 d1 d2 d3
      have BA := hide (below_alloc wr (.cells #[.int .i64 y'.size, .slice x y'.chunks.length cc, .string (str y'.path), .int .i64 y'.kind] 61))
      have F4 := hide (Four.new wr (.int .i64 y'.size) (.slice x y'.chunks.length cc) (.string (str y'.path)) (.int .i64 y'.kind) 61)
      have HC := hide (same_any e y' ex x ec cc _ (HE.out.below (below_next HW.out BA.out)) (HRc.out.below (below_next HW.out BA.out)) hel hsm.2)
      have hfy : decide (e = y') = f y' := by rw [HFF.out]
      rw [hfy] at HC
      clear hfy
      go_wp2_with fail
      refine HC.out.mono ?_
      rintro r w3 ⟨rfl, hb3⟩
      have BB3 := hide (below_next HW0.out (below_next BA.out hb3))
      obtain ⟨f0, f1, f2, f3⟩ := F4.out.below hb3
      clear hb3 c0 c1 c2 c3
      cases hq : f y'
      · have HN := hide (find_step HX.out HFi.out hq)
        clear hq
        go_wp2_with fail
        go_roundw
        case rel => exact ⟨k + 1, by omega, by go_num, HN, BB3⟩
        case measure => simp [intOf]; omega
      · have HN := hide (find_hit HX.out HFi.out hq)
        clear hq
        obtain ⟨⟨t0, t1, t2, t3⟩, tf⟩ := X0.out.below BB3.out
        have tf0 := tf 0
        have tf1 := tf 1
        have tf2 := tf 2
        have tf3 := tf 3
        clear tf
        go_wp2_with fail
        refine bodyPost_ret (v := .tuple #[.agg #[.int .i64 y'.size, .slice x y'.chunks.length cc, .string (str y'.path), .int .i64 y'.kind], .bool true]) (by simp [results, Tryz.results82, go_sem, t0, t1, t2, t3]) rfl ?_
        exact ⟨.inl ⟨y', x, cc, HN.out, rfl, HRc.out⟩, ((((below_next B0.out BB3.out).setCell (p := ⟨w.heap.size, 0, none⟩) (Nat.le_refl _) _).setCell (p := ⟨w.heap.size, 1, none⟩) (Nat.le_refl _) _).setCell (p := ⟨w.heap.size, 2, none⟩) (Nat.le_refl _) _).setCell (p := ⟨w.heap.size, 3, none⟩) (Nat.le_refl _) _⟩
    · have HN := hide (find_stop (by omega) HFi.out)
      have BA := hide (below_alloc wr (.cells #[.int .i64 0, .slice none 0 0, .string ⟨#[]⟩, .int .i64 0] 61))
      obtain ⟨⟨t0, t1, t2, t3⟩, tf⟩ := X0.out.below (below_next HW0.out BA.out)
      have tf0 := tf 0
      have tf1 := tf 1
      have tf2 := tf 2
      have tf3 := tf 3
      clear tf
      go_wp2_with fail
      refine bodyPost_ret (v := .tuple #[.agg #[.int .i64 0, .slice none 0 0, .string ⟨#[]⟩, .int .i64 0], .bool false]) (by simp [results, Tryz.results82, go_sem, t0, t1, t2, t3]) rfl ?_
      exact ⟨.inr ⟨HN.out, rfl⟩, ((((below_next HW.out BA.out).setCell (p := ⟨w.heap.size, 0, none⟩) (Nat.le_refl _) _).setCell (p := ⟨w.heap.size, 1, none⟩) (Nat.le_refl _) _).setCell (p := ⟨w.heap.size, 2, none⟩) (Nat.le_refl _) _).setCell (p := ⟨w.heap.size, 3, none⟩) (Nat.le_refl _) _⟩
set_option maxRecDepth 100000 in
set_option maxHeartbeats 1600000 in
theorem hasSame_any (a : Option Addr) (c n : Nat) (es : List En) (e : En) (ex : Option Addr) (ec : Nat) (w : World) (h : RdI w a es) (hn : n = es.length) (hl : es.length ≤ 1048576) (hs : SmallE es) (hx : Reads .i64 w ex e.chunks) (hel : e.chunks.length ≤ 1048576) :
    Calls Tryz.prog 50 #[.slice a n c, .func (.func 34) #[.agg #[.int .i64 e.size, .slice ex e.chunks.length ec, .string (str e.path), .int .i64 e.kind]] #[]] w fun r w' => r = .returned (.bool (es.any fun y => decide (e = y))) ∧ Below w.heap.size w w' := by
  subst hn
  have HC := hide (firstSame_any a c es.length es e ex ec w h rfl hl hs hx hel)
  obtain ⟨f, hf⟩ : ∃ f : En → Bool, f = fun y => decide (e = y) := ⟨_, rfl⟩
  rw [← hf] at HC ⊢
  clear h hs hx hf
  go_enter Tryz.func50, Tryz.ntmps50
  go_wp2_with fail
  refine HC.out.mono ?_
  rintro r w1 ⟨(⟨y, x, cc, hq, rfl, -⟩ | ⟨hq, rfl⟩), hb1⟩
  · have HA := hide (show es.any f = true from List.any_eq_true.2 ⟨y, List.mem_of_find?_eq_some hq, List.find?_some hq⟩)
    have B1 := hide hb1
    clear hb1 hq
    go_wp2_with fail
    go_ret
    exact ⟨ret_bool HA.out.symm, below_next B1.out (below_alloc _ _)⟩
  · have HA := hide (show es.any f = false from List.any_eq_false.2 (fun x hx => List.find?_eq_none.1 hq x hx))
    have B1 := hide hb1
    clear hb1 hq
    go_wp2_with fail
    go_ret
    exact ⟨ret_bool HA.out.symm, below_next B1.out (below_alloc _ _)⟩

set_option maxRecDepth 100000 in
set_option maxHeartbeats 800000 in
theorem turnedLit_any (b : Nat) (a : Option Addr) (c : Nat) (es : List En) (W0 : World) (h : RdI W0 a es) (hl : es.length ≤ 1048576) (hs : SmallE es) (e : En) (x : Option Addr) (cc : Nat) (w : World) (hel : e.chunks.length ≤ 1048576) (hx : Reads .i64 w x e.chunks) (hw : Below W0.heap.size W0 w) (hc : w.cell? ⟨b, 0, none⟩ = some (.slice a es.length c)) :
    Calls Tryz.prog 54 #[.agg #[.int .i64 e.size, .slice x e.chunks.length cc, .string (str e.path), .int .i64 e.kind], .pointer (some ⟨b, 0, none⟩)] w fun r w' => r = .returned (.bool (es.any fun y => decide (e = y))) ∧ Below w.heap.size w w' := by
  have hmf : ∀ (fn : Fn) (first cap : Array Value) (w : World), (Instr.makeFunc fn first cap).run Tryz.prog w = .ok (.func fn first cap) w := fun _ _ _ _ => rfl
  have B0 := hide (below_alloc w (.cells #[.int .i64 e.size, .slice x e.chunks.length cc, .string (str e.path), .int .i64 e.kind] 61))
  have hb := World.block_lt_of_cell? w ⟨b, 0, none⟩ hc
  have hcw := (B0.out.cell (p := ⟨b, 0, none⟩) hb).trans hc
  have HC := hide (hasSame_any a c es.length es e x cc _ (h.below (below_next hw B0.out)) rfl hl hs (hx.below B0.out) hel)
  generalize (es.any fun y => decide (e = y)) = Z at *
  clear h hs hx hw hc
  go_enter Tryz.func54, Tryz.ntmps54
  go_wp2_with fail
  refine HC.out.mono ?_
  rintro r w1 ⟨rfl, hb1⟩
  have B1 := hide (below_next B0.out hb1)
  clear hb1
  go_wp2_with fail
  go_ret
  exact ⟨rfl, B1.out⟩

/-- What goes, of the first k. -/
def goneF (b : List En) (e : En) : Bool := !(atP b e.path) && decide (homeC b e.path = 0)
theorem goneE_eq (a b : List En) : goneE a b = (a.filter (goneF b)).map fun e => whiteE e.path := rfl
set_option maxRecDepth 100000 in
set_option maxHeartbeats 3200000 in
theorem goneItems_any (a : Option Addr) (c n : Nat) (es : List En) (b : Option Addr) (d m : Nat) (fs : List En) (w : World) (h : RdI w a es) (hn : n = es.length) (hR : RightT es) (h2 : RdI w b fs) (hm : m = fs.length) (hR2 : RightT fs) :
    Calls Tryz.prog 55 #[.slice a n c, .slice b m d] w fun r w' => ∃ av cv, r = .returned (.slice av (goneE es fs).length cv) ∧ LI w w' (.slice av (goneE es fs).length cv) (goneE es fs) ∧ Below w.heap.size w w' := by
  subst hn hm
  obtain ⟨i1, ki, kz0, kz1, kz2⟩ := info_parts Tryz.infoIt
  have HR := hide h
  have HR2 := hide h2
  have HRT := hide hR
  have HRT2 := hide hR2
  have hl := hR.len
  have hl2 := hR2.len
  clear h h2 hR hR2
  go_enter Tryz.func55, Tryz.ntmps55
  go_wp2_with fail
  go_loopw [5, 10] (fun v i wr => ∃ k : Nat, k ≤ es.length ∧ i = .int .i64 k ∧ Hid (LI w wr v (goneE (es.take k) fs)) ∧ Hid (Below w.heap.size w wr)) (fun _ i _ => es.length - (intOf i).toNat)
  case atStart => exact ⟨0, Nat.zero_le _, rfl, hide (LI.nil _ _), hide (Below.refl _ _)⟩
  case round =>
    obtain ⟨k, hk, rfl, HL, HW⟩ := hrel
    have hsz := HW.out.size
    obtain ⟨lv, lc, hv⟩ := HL.out.shape
    subst hv
    have hrl : (goneE (es.take k) fs).length ≤ k := by
      rw [goneE_eq, List.length_map]
      have := List.length_filter_le (goneF fs) (es.take k)
      rw [List.length_take] at this
      omega
    by_cases hlt : k < es.length
    · obtain ⟨bb, off, e, x, cc, rfl, hb, he, c0, c1, c2, c3, hr⟩ := (HR.out.below HW.out).at hlt
      have hep := HRT.out.path (List.mem_of_getElem? he)
      have HX := hide he
      have HATF := hide (show (fs.any fun y => decide (y.path = e.path)) = atP fs e.path from rfl)
      have BA := hide (below_alloc wr (.cells #[.int .i64 e.size, .slice x e.chunks.length cc, .string (str e.path), .int .i64 e.kind] 61))
      have F4 := hide (Four.new wr (.int .i64 e.size) (.slice x e.chunks.length cc) (.string (str e.path)) (.int .i64 e.kind) 61)
      have hbk : wr.heap.size < (wr.alloc (.cells #[.int .i64 e.size, .slice x e.chunks.length cc, .string (str e.path), .int .i64 e.kind] 61)).heap.size := by simp
      clear he hr
      go_wp2_with fail
      generalize wr.alloc (.cells #[.int .i64 e.size, .slice x e.chunks.length cc, .string (str e.path), .int .i64 e.kind] 61) = W2 at *
      clear c0 c1 c2 c3
      refine (isAt_any e.path _).mono ?_
      rintro r w3 ⟨rfl, hb3, hA⟩
      have HA := hide hA
      have BB3 := hide (below_next BA.out hb3)
      have F3 := hide (F4.out.below hb3)
      clear hA hb3
      go_wp2_with fail
      refine (hasI_any b d fs.length fs _ _ _ _ (HR2.out.below (below_next HW.out BB3.out)) rfl (by omega) HRT2.out.small HA.out).mono ?_
      rw [HATF.out]
      rintro r w4 ⟨rfl, hb4⟩
      have BB4 := hide (below_next BB3.out hb4)
      obtain ⟨f0, f1, f2, f3⟩ := F3.out.below hb4
      have F4' := hide (F3.out.below hb4)
      clear hb4
      cases hat : atP fs e.path
      · go_wp2_with fail
        refine (homeReply_any b d fs.length fs e.path _ (HR2.out.below (below_next HW.out BB4.out)) rfl HRT2.out hep).mono ?_
        rintro r w5 ⟨rfl, hb5⟩
        have BB5 := hide (below_next BB4.out hb5)
        clear f0 f1 f2 f3
        obtain ⟨f0, f1, f2, f3⟩ := F4'.out.below hb5
        clear hb5
        by_cases hh : homeC fs e.path = 0
        · have hg : goneF fs e = true := by simp [goneF, hat, hh]
          have HN := hide (show goneE (es.take (k + 1)) fs = goneE (es.take k) fs ++ [whiteE e.path] from by rw [goneE_eq, goneE_eq, filter_in HX.out hg, List.map_append]; rfl)
          rw [hh]
          obtain ⟨rs, g1, g2, g3⟩ := HL.out
          have G1 := hide g1
          have G2 := hide (ownsRow_below g2 BB5.out)
          have G3 := hide g3
          clear g1 g2 g3 hh hat hg
          obtain ⟨LL, hLL⟩ : ∃ LL, LL = (goneE (es.take k) fs).length := ⟨_, rfl⟩
          rw [← hLL] at hrl G2 ⊢
          have HLn := hide hLL
          clear hLL
          have hm1 : LL + 1 ≤ maxLen := by unfold maxLen; omega
          have hm1' : (LL + 1) * 56 ≤ 140737488355328 := by omega
          have hsz5 := BB5.out.size
          go_wp2_with (at_builtin; refine wpList_append_put rfl (.tmp 27) (.tmp 31) 47 rfl w.heap.size 61 i1 (.agg #[.int .i64 0, .slice none 0 0, .string ⟨#[]⟩, .int .i64 0]) 4 56 Tryz.underlying47 ki kz0 kz1 kz2 rfl (by decide) _ _ _ rfl G2.out _ rfl rfl rfl (by intro u hu; simp at hu; rcases hu with rfl | rfl | rfl | rfl <;> rfl) hm1 hm1' (by omega) ?_; intro av6 cv6 w6 hown6 hk6; have O6 := hide hown6; have K6 := hide hk6; clear hown6 hk6)
          go_roundw
          case rel =>
            refine ⟨k + 1, by omega, by go_num, hide ?_, hide ?_⟩
            · rw [HN.out]
              exact LI.push (e := whiteE e.path) (a := none) (c := 0) G1.out HLn.out G3.out (fun hne => absurd rfl hne) O6.out
            · exact (below_next HW.out BB5.out).trans (K6.out.below (by omega) (fun q hq hS => by have := (G2.out.lt q hS).1; omega))
          case measure => simp [intOf]; omega
        · have hg : goneF fs e = false := by simp [goneF, hat, hh]
          have HN := hide (show goneE (es.take (k + 1)) fs = goneE (es.take k) fs from by rw [goneE_eq, goneE_eq, filter_out HX.out hg])
          generalize homeC fs e.path = F at *
          have hfb : (F == 0) = false := beq_eq_false_iff_ne.2 hh
          clear hh hat hg
          go_wp2_with fail
          go_roundw
          case rel => exact ⟨k + 1, by omega, by go_num, hide (by rw [HN.out]; exact HL.out.below BB5.out), hide (below_next HW.out BB5.out)⟩
          case measure => simp [intOf]; omega
      · have hg : goneF fs e = false := by simp [goneF, hat]
        have HN := hide (show goneE (es.take (k + 1)) fs = goneE (es.take k) fs from by rw [goneE_eq, goneE_eq, filter_out HX.out hg])
        clear hat hg
        go_wp2_with fail
        go_roundw
        case rel => exact ⟨k + 1, by omega, by go_num, hide (by rw [HN.out]; exact HL.out.below BB4.out), hide (below_next HW.out BB4.out)⟩
        case measure => simp [intOf]; omega
    · have HE := hide (show es.take k = es from List.take_of_length_le (by omega))
      rw [HE.out] at HL ⊢
      clear HE
      go_wp2_with fail
      go_ret
      exact ⟨lv, lc, rfl, HL.out, HW.out⟩
end Go.Proofs.YtjcjdedkedafbaaGreat
