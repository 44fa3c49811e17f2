/-
  The program's MergeAll.
-/
import Derived.Test.YtjkmbicedbdifaaGreatJ3
import Derived.Test.YtjkmbicedbdifaaGreatMerR
namespace Go.Proofs.YtjkmbicedbdifaaGreat
open Go.RowKit Go.Maps
set_option linter.unusedVariables false
attribute [local go_sem ↓] Go.wp_at_zero Go.wp_at_succ

/-- What MergeAll answers: a tree on the way that is too long ends it. -/
def malOK (ls : List (List En)) : Bool := (List.range (ls.length + 1)).all fun j => decide ((allE (ls.take j)).length ≤ 40)
def malC (ls : List (List En)) : Int := if layersP ls = 0 then (if malOK ls then 0 else 2) else layersP ls
def malL (ls : List (List En)) : List En := if malC ls = 0 then allE ls else []
theorem mal_bad {ls : List (List En)} (h : layersP ls ≠ 0) : malC ls = layersP ls ∧ malL ls = [] := by
  have h1 : malC ls = layersP ls := by rw [malC, if_neg h]
  exact ⟨h1, by rw [malL, if_neg (by rw [h1]; exact h)]⟩
theorem mal_many {ls : List (List En)} {k : Nat} (h : layersP ls = 0) (hk : k ≤ ls.length) (h40 : 40 < (allE (ls.take k)).length) : malC ls = 2 ∧ malL ls = [] := by
  have h0 : malOK ls = false := by
    rw [malOK, List.all_eq_false]
    exact ⟨k, List.mem_range.2 (by omega), by simp; omega⟩
  have h1 : malC ls = 2 := by rw [malC, if_pos h, h0]; rfl
  exact ⟨h1, by rw [malL, if_neg (by rw [h1]; decide)]⟩
theorem mal_ok {ls : List (List En)} (h : layersP ls = 0) (h40 : ∀ j, j ≤ ls.length → (allE (ls.take j)).length ≤ 40) : malC ls = 0 ∧ malL ls = allE ls := by
  have h0 : malOK ls = true := by
    rw [malOK, List.all_eq_true]
    intro j hj
    exact decide_eq_true (h40 j (by have := List.mem_range.1 hj; omega))
  have h1 : malC ls = 0 := by rw [malC, if_pos h, h0]; rfl
  exact ⟨h1, by rw [malL, if_pos h1]⟩
theorem all_next {ls : List (List En)} {k : Nat} {L : List En} (he : ls[k]? = some L) : allE (ls.take (k + 1)) = mergeE (allE (ls.take k)) L := by
  rw [List.take_add_one, he]; exact allE_snoc _ _

theorem Box3.set {w : World} {b : Nat} {u0 u1 u2 : Value} (h : Box3 w b u0 u1 u2) (v0 v1 v2 : Value) : Box3 (((w.setCell ⟨b, 0, none⟩ v0).setCell ⟨b, 1, none⟩ v1).setCell ⟨b, 2, none⟩ v2) b v0 v1 v2 := by
  obtain ⟨⟨c0, c1, c2⟩, f0, f1, f2⟩ := h
  refine ⟨⟨?_, ?_, ?_⟩, ?_, ?_, ?_⟩ <;> simp [go_sem, c0, c1, c2, f0, f1, f2]

set_option maxRecDepth 100000 in
set_option maxHeartbeats 3200000 in
theorem implMergeAll_any (a : Option Addr) (c n : Nat) (ls : List (List En)) (w : World) (h : RdL w a ls) (hn : n = ls.length) (hl : ls.length ≤ 1048576) (hs : SmallL ls) :
    Calls Tryz.prog 8 #[.slice a n c] w (ResT (malC ls) 0 (malL ls) w) := by
  subst hn
  have X0 := hide (Box3.new w (.int .i64 0) (.int .i64 0) (.slice none 0 0) 32)
  have B0 := hide (below_alloc w (.cells #[.int .i64 0, .int .i64 0, .slice none 0 0] 32))
  have HR := hide h
  have HSL := hide hs
  have HLF := hide (implLayersFault_any a c ls.length ls _ (h.below B0.out) rfl hl hs)
  clear h hs
  by_cases hz : layersP ls = 0
  · obtain ⟨h4, hRs⟩ := layersP_zero.1 hz
    rw [hz] at HLF
    have HZ := hide hz
    have HRs := hide hRs
    have HFs := hide (rights_fit hRs)
    clear hz hRs
    go_enter Tryz.func8, Tryz.ntmps8
    go_wp2_with fail
    refine HLF.out.mono ?_
    rintro r w1 ⟨rfl, hb1⟩
    have B1 := hide (below_next B0.out hb1)
    have X1 := hide (X0.out.below hb1)
    have hlt1 : w.heap.size < w1.heap.size := X1.out.lt
    have BA := hide (below_alloc w1 (.cells #[.int .i64 0, .int .i64 0, .slice none 0 0] 32))
    have X2 := hide (X1.out.below BA.out)
    have Y2 := hide (Box3.new w1 (.int .i64 0) (.int .i64 0) (.slice none 0 0) 32)
    have B2 := hide (below_next B1.out BA.out)
    have hs2 : (w1.alloc (.cells #[.int .i64 0, .int .i64 0, .slice none 0 0] 32)).heap.size = w1.heap.size + 1 := by simp
    clear hb1 X0 B0 HLF X1 B1 BA
    go_wp2_with fail
    go_loopw [15] (fun i wr => ∃ (k : Nat) (va : Option Addr) (vc : Nat), k ≤ ls.length ∧ i = .int .i64 k ∧ Hid (Box3 wr w1.heap.size (.int .i64 0) (.int .i64 0) (.slice va (allE (ls.take k)).length vc)) ∧ Hid (Box3 wr w.heap.size (.int .i64 0) (.int .i64 0) (.slice none 0 0)) ∧ Hid (GE (w1.heap.size + 1) wr.heap.size wr (.slice va (allE (ls.take k)).length vc) (allE (ls.take k))) ∧ Hid (Below w.heap.size w wr) ∧ Hid (∀ j, j ≤ k → (allE (ls.take j)).length ≤ 40) ∧ w1.heap.size < wr.heap.size) (fun i _ => ls.length - (intOf i).toNat)
    case atStart => exact ⟨0, none, 0, Nat.zero_le _, rfl, Y2, X2, hide (GE.nil _ _ _), B2, hide (fun j hj => by rw [Nat.le_zero.1 hj]; simp [allE]), by omega⟩
    case round =>
      obtain ⟨k, va, vc, hk, rfl, HY, HX, HG, HW, HJ, hsz⟩ := hrel
      have hfk := (all_view HFs.out k hk).1
      have h40 := HJ.out k (Nat.le_refl _)
      by_cases hlt : k < ls.length
      · obtain ⟨bb, off, L, x, cc, rfl, hbb, he, c0, hr⟩ := (HR.out.below HW.out).at hlt
        obtain ⟨hel, hsm⟩ := HSL.out L (List.mem_of_getElem? he)
        have hRL := HRs.out L (List.mem_of_getElem? he)
        have HN := hide (all_next he)
        have hm := implMergeLayer_any va vc _ (allE (ls.take k)) x cc L.length L wr HG.out.rd rfl (by omega) hfk.fit.small hr rfl (by omega) hsm
        have htz := rightT_P.2 (rightT_fit.2 ⟨hfk, h40⟩)
        have hlz := right_P.2 hRL
        obtain ⟨⟨y0, y1, y2⟩, y3, y4, y5⟩ := HY.out
        by_cases hmany : 40 < (mergeE (allE (ls.take k)) L).length
        · have HCC := hide (mal_many HZ.out (k := k + 1) (by omega) (by rw [HN.out]; exact hmany))
          rw [(mrg_many htz hlz hmany).1, (mrg_many htz hlz hmany).2] at hm
          have HM := hide hm
          clear hm htz hlz hmany hRL hr he hfk h40
          go_wp2_with fail
          refine HM.out.mono ?_
          rintro r w3 ⟨av3, cv3, rfl, hG3, hb3⟩
          have B3 := hide (below_next HW.out hb3)
          have G3 := hide hG3
          have hsb := hb3.size
          obtain ⟨⟨x0', x1', x2'⟩, x3', x4', x5'⟩ := HX.out.below hb3
          obtain ⟨⟨y0', y1', y2'⟩, y3', y4', y5'⟩ := HY.out.below hb3
          have hne : w.heap.size ≠ w1.heap.size := by omega
          have hne2 : w1.heap.size ≠ w.heap.size := by omega
          clear hG3 hb3 y0 y1 y2 y3 y4 y5 c0
          go_wp2_with fail
          have hs3 : (((w3.setCell ⟨w1.heap.size, 0, none⟩ (.int .i64 2)).setCell ⟨w1.heap.size, 1, none⟩ (.int .i64 0)).setCell ⟨w1.heap.size, 2, none⟩ (.slice av3 0 cv3)).heap.size = w3.heap.size := by simp [World.setCell]
          have G4 := hide (G3.out.kept (Kept.three w3 w1.heap.size (.int .i64 2) (.int .i64 0) (.slice av3 0 cv3)) (fun y h1 _ h2 => by omega))
          have B4 := hide (show Below w.heap.size w (((w3.setCell ⟨w1.heap.size, 0, none⟩ (.int .i64 2)).setCell ⟨w1.heap.size, 1, none⟩ (.int .i64 0)).setCell ⟨w1.heap.size, 2, none⟩ (.slice av3 0 cv3)) from ((B3.out.setCell (p := ⟨w1.heap.size, 0, none⟩) (Nat.le_of_lt hlt1) _).setCell (p := ⟨w1.heap.size, 1, none⟩) (Nat.le_of_lt hlt1) _).setCell (p := ⟨w1.heap.size, 2, none⟩) (Nat.le_of_lt hlt1) _)
          rw [← hs3] at G4
          have Z4 := hide ((Box3.kept ⟨⟨x0', x1', x2'⟩, x3', x4', x5'⟩ (Kept.three w3 w1.heap.size (.int .i64 2) (.int .i64 0) (.slice av3 0 cv3)) hne))
          generalize ((w3.setCell ⟨w1.heap.size, 0, none⟩ (.int .i64 2)).setCell ⟨w1.heap.size, 1, none⟩ (.int .i64 0)).setCell ⟨w1.heap.size, 2, none⟩ (.slice av3 0 cv3) = W4 at *
          obtain ⟨⟨t0, t1, t2⟩, t3, t4, t5⟩ := Z4.out
          exact bodyPost_ret (v := .agg #[.int .i64 2, .int .i64 0, .slice av3 0 cv3]) (by simp [results, Tryz.results8, go_sem, t0, t1, t2]) rfl (by rw [HCC.out.1, HCC.out.2]; exact ResT.of (es := []) (by omega) (Nat.le_refl _) rfl G4.out B4.out)
        · rw [(mrg_ok htz hlz hmany).1, (mrg_ok htz hlz hmany).2] at hm
          have HM := hide hm
          have HJ2 := hide (show ∀ j, j ≤ k + 1 → (allE (ls.take j)).length ≤ 40 from fun j hj => by
            by_cases e : j = k + 1
            · rw [e, HN.out]; omega
            · exact HJ.out j (by omega))
          clear hm htz hlz hmany hRL hr he hfk h40 HJ
          go_wp2_with fail
          refine HM.out.mono ?_
          rintro r w3 ⟨av3, cv3, rfl, hG3, hb3⟩
          rw [← HN.out] at hG3 ⊢
          have B3 := hide (below_next HW.out hb3)
          have G3 := hide hG3
          have hsb := hb3.size
          obtain ⟨⟨x0', x1', x2'⟩, x3', x4', x5'⟩ := HX.out.below hb3
          obtain ⟨⟨y0', y1', y2'⟩, y3', y4', y5'⟩ := HY.out.below hb3
          have hne : w.heap.size ≠ w1.heap.size := by omega
          have hne2 : w1.heap.size ≠ w.heap.size := by omega
          clear hG3 hb3 y0 y1 y2 y3 y4 y5 c0 HM HN
          go_wp2_with fail
          have hs3 : (((w3.setCell ⟨w1.heap.size, 0, none⟩ (.int .i64 0)).setCell ⟨w1.heap.size, 1, none⟩ (.int .i64 0)).setCell ⟨w1.heap.size, 2, none⟩ (.slice av3 (allE (ls.take (k + 1))).length cv3)).heap.size = w3.heap.size := by simp [World.setCell]
          have G4 := hide ((G3.out.kept (Kept.three w3 w1.heap.size (.int .i64 0) (.int .i64 0) (.slice av3 (allE (ls.take (k + 1))).length cv3)) (fun y h1 _ h2 => by omega)).mono (B' := w1.heap.size + 1) (by omega))
          have B4 := hide (show Below w.heap.size w (((w3.setCell ⟨w1.heap.size, 0, none⟩ (.int .i64 0)).setCell ⟨w1.heap.size, 1, none⟩ (.int .i64 0)).setCell ⟨w1.heap.size, 2, none⟩ (.slice av3 (allE (ls.take (k + 1))).length cv3)) from ((B3.out.setCell (p := ⟨w1.heap.size, 0, none⟩) (Nat.le_of_lt hlt1) _).setCell (p := ⟨w1.heap.size, 1, none⟩) (Nat.le_of_lt hlt1) _).setCell (p := ⟨w1.heap.size, 2, none⟩) (Nat.le_of_lt hlt1) _)
          rw [← hs3] at G4
          have Z4 := hide ((Box3.kept ⟨⟨x0', x1', x2'⟩, x3', x4', x5'⟩ (Kept.three w3 w1.heap.size (.int .i64 0) (.int .i64 0) (.slice av3 (allE (ls.take (k + 1))).length cv3)) hne))
          have Y4 := hide (Box3.set ⟨⟨y0', y1', y2'⟩, y3', y4', y5'⟩ (.int .i64 0) (.int .i64 0) (.slice av3 (allE (ls.take (k + 1))).length cv3))
          clear x0' x1' x2' x3' x4' x5' y0' y1' y2' y3' y4' y5' G3 B3
          have hsz4 : w1.heap.size < (((w3.setCell ⟨w1.heap.size, 0, none⟩ (.int .i64 0)).setCell ⟨w1.heap.size, 1, none⟩ (.int .i64 0)).setCell ⟨w1.heap.size, 2, none⟩ (.slice av3 (allE (ls.take (k + 1))).length cv3)).heap.size := by omega
          clear hs3
          generalize ((w3.setCell ⟨w1.heap.size, 0, none⟩ (.int .i64 0)).setCell ⟨w1.heap.size, 1, none⟩ (.int .i64 0)).setCell ⟨w1.heap.size, 2, none⟩ (.slice av3 (allE (ls.take (k + 1))).length cv3) = W4 at *
          go_roundw
          case rel => exact ⟨k + 1, av3, cv3, by omega, by go_num, Y4, Z4, G4, B4, HJ2, hsz4⟩
          case measure => simp [intOf]; omega
      · obtain ⟨⟨x0', x1', x2'⟩, x3', x4', x5'⟩ := HX.out
        obtain ⟨⟨y0', y1', y2'⟩, y3', y4', y5'⟩ := HY.out
        have HE := hide (show ls.take k = ls from List.take_of_length_le (by omega))
        have HCC := hide (mal_ok HZ.out (fun j hj => HJ.out j (by omega)))
        rw [HE.out] at HG y2'
        clear HY HJ
        generalize allE ls = M at *
        go_wp2_with fail
        exact bodyPost_ret (v := .agg #[.int .i64 0, .int .i64 0, .slice va M.length vc]) (by simp [results, Tryz.results8, go_sem, x0', x1', x2']) rfl (by rw [HCC.out.1, HCC.out.2]; exact ResT.of (by omega) (Nat.le_refl _) rfl HG.out HW.out)
  · have HC := hide (mal_bad hz)
    generalize layersP ls = F at *
    have hz2 : (F != 0) = true := by simp; exact hz
    clear hz
    obtain ⟨⟨t0, t1, t2⟩, t3, t4, t5⟩ := X0.out
    go_enter Tryz.func8, Tryz.ntmps8
    go_wp2_with fail
    refine HLF.out.mono ?_
    rintro r w1 ⟨rfl, hb1⟩
    have B1 := hide (below_next B0.out hb1)
    clear t0 t1 t2 t3 t4 t5
    obtain ⟨⟨t0, t1, t2⟩, t3, t4, t5⟩ := X0.out.below hb1
    clear hb1
    go_wp2_with fail
    exact bodyPost_ret (v := .agg #[.int .i64 F, .int .i64 0, .slice none 0 0]) (by simp [results, Tryz.results8, go_sem, t0, t1, t2]) rfl (by rw [HC.out.1, HC.out.2]; exact ResT.bad (Nat.le_refl _) B1.out)
end Go.Proofs.YtjkmbicedbdifaaGreat
