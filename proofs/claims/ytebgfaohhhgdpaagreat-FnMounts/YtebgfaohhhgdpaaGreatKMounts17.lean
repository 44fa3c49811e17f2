/-
  Texts put together: SeeJ MerM OvrA MntF LayS IteS.
-/
import Derived.Test.YtebgfaohhhgdpaaGreatKMounts11
import Derived.Test.YtebgfaohhhgdpaaGreatKMounts16
import Derived.Test.YtebgfaohhhgdpaaGreatKMounts12
import Derived.Test.YtebgfaohhhgdpaaGreatKMounts15
import Derived.Test.YtebgfaohhhgdpaaGreatKMounts5
import Derived.Shelf.SlSortCmp.WholeK
import Derived.Ground.SlsfProg
import Derived.Test.YtebgfaohhhgdpaaGreatProg
namespace Go.Proofs.YtebgfaohhhgdpaaGreat
open Go.RowKit Go.Maps
set_option linter.unusedVariables false
attribute [local go_sem ↓] Go.wp_at_zero Go.wp_at_succ

def malOK (ls : List (List En)) : Bool := (List.range (ls.length + 1)).all fun j => decide ((allE (ls.take j)).length ≤ 40)
def malC (ls : List (List En)) : Int := if layersP ls = 0 then (if malOK ls then 0 else 2) else layersP ls
def malL (ls : List (List En)) : List En := if malC ls = 0 then allE ls else []
theorem mal_bad {ls : List (List En)} (h : layersP ls ≠ 0) : malC ls = layersP ls ∧ malL ls = [] := by
  have h1 : malC ls = layersP ls := by rw [malC, if_neg h]
  exact ⟨h1, by rw [malL, if_neg (by rw [h1]; exact h)]⟩
theorem mal_many {ls : List (List En)} {k : Nat} (h : layersP ls = 0) (hk : k ≤ ls.length) (h40 : 40 < (allE (ls.take k)).length) : malC ls = 2 ∧ malL ls = [] := by
  have h0 : malOK ls = false := by
    rw [malOK, List.all_eq_false]
    exact ⟨k, List.mem_range.2 (by omega), by simp; omega⟩
  have h1 : malC ls = 2 := by rw [malC, if_pos h, h0]; rfl
  exact ⟨h1, by rw [malL, if_neg (by rw [h1]; decide)]⟩
theorem mal_ok {ls : List (List En)} (h : layersP ls = 0) (h40 : ∀ j, j ≤ ls.length → (allE (ls.take j)).length ≤ 40) : malC ls = 0 ∧ malL ls = allE ls := by
  have h0 : malOK ls = true := by
    rw [malOK, List.all_eq_true]
    intro j hj
    exact decide_eq_true (h40 j (by have := List.mem_range.1 hj; omega))
  have h1 : malC ls = 0 := by rw [malC, if_pos h, h0]; rfl
  exact ⟨h1, by rw [malL, if_pos h1]⟩
theorem all_next {ls : List (List En)} {k : Nat} {L : List En} (he : ls[k]? = some L) : allE (ls.take (k + 1)) = mergeE (allE (ls.take k)) L := by
  rw [List.take_add_one, he]; exact allE_snoc _ _

theorem Box3.set {w : World} {b : Nat} {u0 u1 u2 : Value} (h : Box3 w b u0 u1 u2) (v0 v1 v2 : Value) : Box3 (((w.setCell ⟨b, 0, none⟩ v0).setCell ⟨b, 1, none⟩ v1).setCell ⟨b, 2, none⟩ v2) b v0 v1 v2 := by
  obtain ⟨⟨c0, c1, c2⟩, f0, f1, f2⟩ := h
  refine ⟨⟨?_, ?_, ?_⟩, ?_, ?_, ?_⟩ <;> simp [go_sem, c0, c1, c2, f0, f1, f2]

set_option maxRecDepth 100000 in
set_option maxHeartbeats 3200000 in
theorem implMergeAll_any (a : Option Addr) (c n : Nat) (ls : List (List En)) (w : World) (h : RdL w a ls) (hn : n = ls.length) (hl : ls.length ≤ 1048576) (hs : SmallL ls) :
    Calls Tryz.prog 26 #[.slice a n c] w (ResT (malC ls) 0 (malL ls) w) := by
  subst hn
  have X0 := hide (Box3.new w (.int .i64 0) (.int .i64 0) (.slice none 0 0) 29)
  have B0 := hide (below_alloc w (.cells #[.int .i64 0, .int .i64 0, .slice none 0 0] 29))
  have HR := hide h
  have HSL := hide hs
  have HLF := hide (implLayersFault_any a c ls.length ls _ (h.below B0.out) rfl hl hs)
  clear h hs
  by_cases hz : layersP ls = 0
  · obtain ⟨h4, hRs⟩ := layersP_zero.1 hz
    rw [hz] at HLF
    have HZ := hide hz
    have HRs := hide hRs
    have HFs := hide (rights_fit hRs)
    clear hz hRs
    go_enter Tryz.func26, Tryz.ntmps26
    go_wp2_with fail
    refine HLF.out.mono ?_
    rintro r w1 ⟨rfl, hb1⟩
    have B1 := hide (below_next B0.out hb1)
    have X1 := hide (X0.out.below hb1)
    have hlt1 : w.heap.size < w1.heap.size := X1.out.lt
    have BA := hide (below_alloc w1 (.cells #[.int .i64 0, .int .i64 0, .slice none 0 0] 29))
    have X2 := hide (X1.out.below BA.out)
    have Y2 := hide (Box3.new w1 (.int .i64 0) (.int .i64 0) (.slice none 0 0) 29)
    have B2 := hide (below_next B1.out BA.out)
    have hs2 : (w1.alloc (.cells #[.int .i64 0, .int .i64 0, .slice none 0 0] 29)).heap.size = w1.heap.size + 1 := by simp
    clear hb1 X0 B0 HLF X1 B1 BA
    go_wp2_with fail
    go_loopw [15] (fun i wr => ∃ (k : Nat) (va : Option Addr) (vc : Nat), k ≤ ls.length ∧ i = .int .i64 k ∧ Hid (Box3 wr w1.heap.size (.int .i64 0) (.int .i64 0) (.slice va (allE (ls.take k)).length vc)) ∧ Hid (Box3 wr w.heap.size (.int .i64 0) (.int .i64 0) (.slice none 0 0)) ∧ Hid (GE (w1.heap.size + 1) wr.heap.size wr (.slice va (allE (ls.take k)).length vc) (allE (ls.take k))) ∧ Hid (Below w.heap.size w wr) ∧ Hid (∀ j, j ≤ k → (allE (ls.take j)).length ≤ 40) ∧ w1.heap.size < wr.heap.size) (fun i _ => ls.length - (intOf i).toNat)
    case atStart => exact ⟨0, none, 0, Nat.zero_le _, rfl, Y2, X2, hide (GE.nil _ _ _), B2, hide (fun j hj => by rw [Nat.le_zero.1 hj]; simp [allE]), by omega⟩
    case round =>
      obtain ⟨k, va, vc, hk, rfl, HY, HX, HG, HW, HJ, hsz⟩ := hrel
      have hfk := (all_view HFs.out k hk).1
      have h40 := HJ.out k (Nat.le_refl _)
      by_cases hlt : k < ls.length
      · obtain ⟨bb, off, L, x, cc, rfl, hbb, he, c0, hr⟩ := (HR.out.below HW.out).at hlt
        obtain ⟨hel, hsm⟩ := HSL.out L (List.mem_of_getElem? he)
        have hRL := HRs.out L (List.mem_of_getElem? he)
        have HN := hide (all_next he)
        have hm := implMergeLayer_any va vc _ (allE (ls.take k)) x cc L.length L wr HG.out.rd rfl (by omega) hfk.fit.small hr rfl (by omega) hsm
        have htz := rightT_P.2 (rightT_fit.2 ⟨hfk, h40⟩)
        have hlz := right_P.2 hRL
        obtain ⟨⟨y0, y1, y2⟩, y3, y4, y5⟩ := HY.out
        by_cases hmany : 40 < (mergeE (allE (ls.take k)) L).length
        · have HCC := hide (mal_many HZ.out (k := k + 1) (by omega) (by rw [HN.out]; exact hmany))
          rw [(mrg_many htz hlz hmany).1, (mrg_many htz hlz hmany).2] at hm
          have HM := hide hm
          clear hm htz hlz hmany hRL hr he hfk h40
          go_wp2_with fail
          refine HM.out.mono ?_
          rintro r w3 ⟨av3, cv3, rfl, hG3, hb3⟩
          have B3 := hide (below_next HW.out hb3)
          have G3 := hide hG3
          have hsb := hb3.size
          obtain ⟨⟨x0', x1', x2'⟩, x3', x4', x5'⟩ := HX.out.below hb3
          obtain ⟨⟨y0', y1', y2'⟩, y3', y4', y5'⟩ := HY.out.below hb3
          have hne : w.heap.size ≠ w1.heap.size := by omega
          have hne2 : w1.heap.size ≠ w.heap.size := by omega
          clear hG3 hb3 y0 y1 y2 y3 y4 y5 c0
          go_wp2_with fail
          have hs3 : (((w3.setCell ⟨w1.heap.size, 0, none⟩ (.int .i64 2)).setCell ⟨w1.heap.size, 1, none⟩ (.int .i64 0)).setCell ⟨w1.heap.size, 2, none⟩ (.slice av3 0 cv3)).heap.size = w3.heap.size := by simp [World.setCell]
          have G4 := hide (G3.out.kept (Kept.three w3 w1.heap.size (.int .i64 2) (.int .i64 0) (.slice av3 0 cv3)) (fun y h1 _ h2 => by omega))
          have B4 := hide (show Below w.heap.size w (((w3.setCell ⟨w1.heap.size, 0, none⟩ (.int .i64 2)).setCell ⟨w1.heap.size, 1, none⟩ (.int .i64 0)).setCell ⟨w1.heap.size, 2, none⟩ (.slice av3 0 cv3)) from ((B3.out.setCell (p := ⟨w1.heap.size, 0, none⟩) (Nat.le_of_lt hlt1) _).setCell (p := ⟨w1.heap.size, 1, none⟩) (Nat.le_of_lt hlt1) _).setCell (p := ⟨w1.heap.size, 2, none⟩) (Nat.le_of_lt hlt1) _)
          rw [← hs3] at G4
          have Z4 := hide ((Box3.kept ⟨⟨x0', x1', x2'⟩, x3', x4', x5'⟩ (Kept.three w3 w1.heap.size (.int .i64 2) (.int .i64 0) (.slice av3 0 cv3)) hne))
          generalize ((w3.setCell ⟨w1.heap.size, 0, none⟩ (.int .i64 2)).setCell ⟨w1.heap.size, 1, none⟩ (.int .i64 0)).setCell ⟨w1.heap.size, 2, none⟩ (.slice av3 0 cv3) = W4 at *
          obtain ⟨⟨t0, t1, t2⟩, t3, t4, t5⟩ := Z4.out
          exact bodyPost_ret (v := .agg #[.int .i64 2, .int .i64 0, .slice av3 0 cv3]) (by simp [results, Tryz.results26, go_sem, t0, t1, t2]) rfl (by rw [HCC.out.1, HCC.out.2]; exact ResT.of (es := []) (by omega) (Nat.le_refl _) rfl G4.out B4.out)
        · rw [(mrg_ok htz hlz hmany).1, (mrg_ok htz hlz hmany).2] at hm
          have HM := hide hm
          have HJ2 := hide (show ∀ j, j ≤ k + 1 → (allE (ls.take j)).length ≤ 40 from fun j hj => by
            by_cases e : j = k + 1
            · rw [e, HN.out]; omega
            · exact HJ.out j (by omega))
          clear hm htz hlz hmany hRL hr he hfk h40 HJ
          go_wp2_with fail
          refine HM.out.mono ?_
          rintro r w3 ⟨av3, cv3, rfl, hG3, hb3⟩
          rw [← HN.out] at hG3 ⊢
          have B3 := hide (below_next HW.out hb3)
          have G3 := hide hG3
          have hsb := hb3.size
          obtain ⟨⟨x0', x1', x2'⟩, x3', x4', x5'⟩ := HX.out.below hb3
          obtain ⟨⟨y0', y1', y2'⟩, y3', y4', y5'⟩ := HY.out.below hb3
          have hne : w.heap.size ≠ w1.heap.size := by omega
          have hne2 : w1.heap.size ≠ w.heap.size := by omega
          clear hG3 hb3 y0 y1 y2 y3 y4 y5 c0 HM HN
          go_wp2_with fail
          have hs3 : (((w3.setCell ⟨w1.heap.size, 0, none⟩ (.int .i64 0)).setCell ⟨w1.heap.size, 1, none⟩ (.int .i64 0)).setCell ⟨w1.heap.size, 2, none⟩ (.slice av3 (allE (ls.take (k + 1))).length cv3)).heap.size = w3.heap.size := by simp [World.setCell]
          have G4 := hide ((G3.out.kept (Kept.three w3 w1.heap.size (.int .i64 0) (.int .i64 0) (.slice av3 (allE (ls.take (k + 1))).length cv3)) (fun y h1 _ h2 => by omega)).mono (B' := w1.heap.size + 1) (by omega))
          have B4 := hide (show Below w.heap.size w (((w3.setCell ⟨w1.heap.size, 0, none⟩ (.int .i64 0)).setCell ⟨w1.heap.size, 1, none⟩ (.int .i64 0)).setCell ⟨w1.heap.size, 2, none⟩ (.slice av3 (allE (ls.take (k + 1))).length cv3)) from ((B3.out.setCell (p := ⟨w1.heap.size, 0, none⟩) (Nat.le_of_lt hlt1) _).setCell (p := ⟨w1.heap.size, 1, none⟩) (Nat.le_of_lt hlt1) _).setCell (p := ⟨w1.heap.size, 2, none⟩) (Nat.le_of_lt hlt1) _)
          rw [← hs3] at G4
          have Z4 := hide ((Box3.kept ⟨⟨x0', x1', x2'⟩, x3', x4', x5'⟩ (Kept.three w3 w1.heap.size (.int .i64 0) (.int .i64 0) (.slice av3 (allE (ls.take (k + 1))).length cv3)) hne))
          have Y4 := hide (Box3.set ⟨⟨y0', y1', y2'⟩, y3', y4', y5'⟩ (.int .i64 0) (.int .i64 0) (.slice av3 (allE (ls.take (k + 1))).length cv3))
          clear x0' x1' x2' x3' x4' x5' y0' y1' y2' y3' y4' y5' G3 B3
          have hsz4 : w1.heap.size < (((w3.setCell ⟨w1.heap.size, 0, none⟩ (.int .i64 0)).setCell ⟨w1.heap.size, 1, none⟩ (.int .i64 0)).setCell ⟨w1.heap.size, 2, none⟩ (.slice av3 (allE (ls.take (k + 1))).length cv3)).heap.size := by omega
          clear hs3
          generalize ((w3.setCell ⟨w1.heap.size, 0, none⟩ (.int .i64 0)).setCell ⟨w1.heap.size, 1, none⟩ (.int .i64 0)).setCell ⟨w1.heap.size, 2, none⟩ (.slice av3 (allE (ls.take (k + 1))).length cv3) = W4 at *
          go_roundw
          case rel => exact ⟨k + 1, av3, cv3, by omega, by go_num, Y4, Z4, G4, B4, HJ2, hsz4⟩
          case measure => simp [intOf]; omega
      · obtain ⟨⟨x0', x1', x2'⟩, x3', x4', x5'⟩ := HX.out
        obtain ⟨⟨y0', y1', y2'⟩, y3', y4', y5'⟩ := HY.out
        have HE := hide (show ls.take k = ls from List.take_of_length_le (by omega))
        have HCC := hide (mal_ok HZ.out (fun j hj => HJ.out j (by omega)))
        rw [HE.out] at HG y2'
        clear HY HJ
        generalize allE ls = M at *
        go_wp2_with fail
        exact bodyPost_ret (v := .agg #[.int .i64 0, .int .i64 0, .slice va M.length vc]) (by simp [results, Tryz.results26, go_sem, x0', x1', x2']) rfl (by rw [HCC.out.1, HCC.out.2]; exact ResT.of (by omega) (Nat.le_refl _) rfl HG.out HW.out)
  · have HC := hide (mal_bad hz)
    generalize layersP ls = F at *
    have hz2 : (F != 0) = true := by simp; exact hz
    clear hz
    obtain ⟨⟨t0, t1, t2⟩, t3, t4, t5⟩ := X0.out
    go_enter Tryz.func26, Tryz.ntmps26
    go_wp2_with fail
    refine HLF.out.mono ?_
    rintro r w1 ⟨rfl, hb1⟩
    have B1 := hide (below_next B0.out hb1)
    clear t0 t1 t2 t3 t4 t5
    obtain ⟨⟨t0, t1, t2⟩, t3, t4, t5⟩ := X0.out.below hb1
    clear hb1
    go_wp2_with fail
    exact bodyPost_ret (v := .agg #[.int .i64 F, .int .i64 0, .slice none 0 0]) (by simp [results, Tryz.results26, go_sem, t0, t1, t2]) rfl (by rw [HC.out.1, HC.out.2]; exact ResT.bad (Nat.le_refl _) B1.out)
end Go.Proofs.YtebgfaohhhgdpaaGreat

namespace Go.Proofs.YtebgfaohhhgdpaaGreat
open Go.RowKit Go.Maps
set_option linter.unusedVariables false
attribute [local go_sem ↓] Go.wp_at_zero Go.wp_at_succ

theorem rest_base {t : List En} {e : En} : baseE (restE t e.path true) e = restE t e.path true := by
  unfold baseE
  rw [List.filter_eq_self]
  intro x hx
  obtain ⟨-, h1, h2⟩ := mem_rest.1 hx
  simp [keepE, h1, h2]
theorem put_rest (t : List En) (e : En) : putE (restE t e.path true) e = putAt (restE t e.path true) e := by unfold putE; rw [rest_base]
theorem find_dir {t : List En} (h : FitT t) {p : Bs} {m : Nat} {d : En} (ha : atE t p = some m) (hd : t[m]? = some d) : hasDir t p = decide (d.kind = 2) := by
  have hf : findE t p = some d := by rw [atE_find, ha]; exact hd
  obtain ⟨hm, hp⟩ := find_mem hf
  rw [Bool.eq_iff_iff, hasDir_iff, decide_eq_true_iff]
  constructor
  · rintro ⟨x, hx, hxp, hk⟩
    have : findE t p = some x := by rw [← hxp]; exact rise_find h.fit.rise hx
    rw [hf] at this
    cases this
    exact h.dir hm hk
  · intro hk
    exact ⟨d, hm, hp, by simp [dirK, hk]⟩
theorem find_nodir {t : List En} {p : Bs} (ha : atE t p = none) : hasDir t p = false := by
  have hf : findE t p = none := by rw [atE_find, ha]; rfl
  rw [Bool.eq_false_iff]
  intro h
  obtain ⟨x, hx, hxp, -⟩ := hasDir_iff.1 h
  have := List.find?_eq_none.1 hf x hx
  simp [hxp] at this
theorem over_white {t : List En} {e : En} (h : e.kind = 3) : overE t e = restE t e.path true := by simp [overE, h]
theorem over_stay {t : List En} {e : En} (h : e.kind = 2) (hd : hasDir t e.path = true) : overE t e = t := by simp [overE, h, hd]
theorem over_put {t : List En} {e : En} (h : e.kind ≠ 3) (hd : ¬ (e.kind = 2 ∧ hasDir t e.path = true)) : overE t e = putE (restE t e.path true) (asT e) := by
  unfold overE
  rw [if_neg h, if_neg hd, ← asT_path e, put_rest, asT_path]
def ResR7 (es : List En) (w : World) (r : Ending) (w' : World) : Prop := ∃ av cv, r = .returned (.slice av es.length cv) ∧ RdE w' av es ∧ Below w.heap.size w w'

set_option maxRecDepth 100000 in
set_option maxHeartbeats 6400000 in
theorem l7One_any (a : Option Addr) (c n : Nat) (t : List En) (e : En) (x : Option Addr) (cc : Nat) (w : World) (h : RdE w a t) (hn : n = t.length) (hl : t.length ≤ 1000000) (hF : FitT t) (hx : Reads .i64 w x e.chunks) (he : entFault e = 0) (hp : e.path.length ≤ 1048576) (hc : e.chunks.length ≤ 1048576) :
    Calls Tryz.prog 183 #[.slice a n c, .agg #[.string (str e.path), .int .i64 e.kind, .int .i64 e.size, .slice x e.chunks.length cc]] w (ResR7 (overE t e) w) := by
  subst hn
  have HS := hide hF.fit.small
  have HFt := hide hF
  have hkk := ent_kinds he
  have BA := hide (below_alloc w (.cells #[.string (str e.path), .int .i64 e.kind, .int .i64 e.size, .slice x e.chunks.length cc] 53))
  have X0 := hide (Box4.new w (.string (str e.path)) (.int .i64 e.kind) (.int .i64 e.size) (.slice x e.chunks.length cc) 53)
  have RW := hide (h.below BA.out)
  have HX := hide hx
  have HAT := hide (l4At_any a c t.length t e.path _ RW.out rfl (by omega))
  have hw0 : w.heap.size < (w.alloc (.cells #[.string (str e.path), .int .i64 e.kind, .int .i64 e.size, .slice x e.chunks.length cc] 53)).heap.size := by simp
  obtain ⟨⟨s0, s1, s2, s3⟩, -⟩ := X0.out
  clear h hF hx he
  go_enter Tryz.func183, Tryz.ntmps183
  go_wp2_with fail
  generalize w.alloc (.cells #[.string (str e.path), .int .i64 e.kind, .int .i64 e.size, .slice x e.chunks.length cc] 53) = W0 at *
  refine HAT.out.mono ?_
  rintro r w1 ⟨rfl, rfl⟩
  clear HAT
  rcases hkk with hk | hk | hk | hk
  · have HZ := hide (show overE t e = putE (restE t e.path true) e from by rw [over_put (by omega) (by omega)]; simp [asT, hk])
    have kf2 : (e.kind == 2) = false := by rw [hk]; rfl
    have kf3 : (e.kind == 3) = false := by rw [hk]; rfl
    have kf4 : (e.kind == 4) = false := by rw [hk]; rfl
    clear hk
    go_wp2_with fail
    refine (l4Without_any a c t.length t e.path true w1 RW.out rfl (by omega) HS.out hp).mono ?_
    rintro r w2 ⟨g, cv, rfl, hG, hb2⟩
    have G2 := hide hG
    have B2 := hide (below_next BA.out hb2)
    obtain ⟨⟨t0, t1, t2, t3⟩, tf⟩ := X0.out.below hb2
    have tf1 := tf 1
    have RX2 := hide (HX.out.below B2.out)
    have hlt2 : w1.heap.size ≤ w2.heap.size := hb2.size
    clear hG hb2 tf
    go_wp2_with fail
    refine (l4Put_any (some ⟨g, 0, none⟩) cv (restE t e.path true).length (restE t e.path true) e x e.chunks.length cc _ G2.out.rd rfl (by have := restE_len t e.path true; omega) (restE_small HS.out _ _) rfl RX2.out hp hc).mono ?_
    rintro r w3 ⟨g3, cv3, rfl, hG3, hb3⟩
    have G3 := hide hG3.rd
    have B3 := hide (below_next B2.out hb3)
    clear hG3 hb3
    go_wp2_with fail
    go_ret
    rw [HZ.out]
    exact ⟨_, cv3, rfl, G3.out, B3.out⟩
  · have kf2 : (e.kind == 2) = true := by rw [hk]; rfl
    have kf3 : (e.kind == 3) = false := by rw [hk]; rfl
    have kf4 : (e.kind == 4) = false := by rw [hk]; rfl
    cases ha : atE t e.path with
    | none =>
      have hd := find_nodir ha
      have HZ := hide (show overE t e = putE (restE t e.path true) e from by rw [over_put (by omega) (by simp [hd])]; simp [asT, hk])
      rw [show placeI none = -1 from rfl]
      clear ha hd hk
      go_wp2_with fail
      refine (l4Without_any a c t.length t e.path true w1 RW.out rfl (by omega) HS.out hp).mono ?_
      rintro r w2 ⟨g, cv, rfl, hG, hb2⟩
      have G2 := hide hG
      have B2 := hide (below_next BA.out hb2)
      obtain ⟨⟨t0, t1, t2, t3⟩, tf⟩ := X0.out.below hb2
      have tf1 := tf 1
      have RX2 := hide (HX.out.below B2.out)
      have hlt2 : w1.heap.size ≤ w2.heap.size := hb2.size
      clear hG hb2 tf
      go_wp2_with fail
      refine (l4Put_any (some ⟨g, 0, none⟩) cv (restE t e.path true).length (restE t e.path true) e x e.chunks.length cc _ G2.out.rd rfl (by have := restE_len t e.path true; omega) (restE_small HS.out _ _) rfl RX2.out hp hc).mono ?_
      rintro r w3 ⟨g3, cv3, rfl, hG3, hb3⟩
      have G3 := hide hG3.rd
      have B3 := hide (below_next B2.out hb3)
      clear hG3 hb3
      go_wp2_with fail
      go_ret
      rw [HZ.out]
      exact ⟨_, cv3, rfl, G3.out, B3.out⟩
    | some m =>
      have hm := atE_lt ha
      obtain ⟨b, off, d, y, dc, rfl, hb, hd, c0, c1, c2, c3, hr⟩ := RW.out.at hm
      have hfd := find_dir HFt.out ha hd
      rw [show placeI (some m) = (m : Int) from rfl]
      have hm0 : ¬ (m : Int) < 0 := by omega
      have hm1 : (0 : Int) ≤ (m : Int) := by omega
      have hm2 : (m : Int) < (t.length : Int) := by omega
      clear ha hr c0 c2 c3 hd
      by_cases hdk : d.kind = 2
      · have hdk' : (d.kind == 2) = true := by simpa using hdk
        have HZ := hide (over_stay (t := t) (e := e) hk (by rw [hfd]; simp [hdk]))
        clear hdk hfd hk
        go_wp2_with fail
        go_ret
        rw [HZ.out]
        exact ⟨_, c, rfl, RW.out, BA.out⟩
      · have hdk' : (d.kind == 2) = false := by simpa using hdk
        have HZ := hide (show overE t e = putE (restE t e.path true) e from by rw [over_put (by omega) (by simp [hfd, hdk])]; simp [asT, hk])
        clear hdk hfd hk
        go_wp2_with fail
        refine (l4Without_any (some ⟨b, off, none⟩) c t.length t e.path true w1 RW.out rfl (by omega) HS.out hp).mono ?_
        rintro r w2 ⟨g, cv, rfl, hG, hb2⟩
        have G2 := hide hG
        have B2 := hide (below_next BA.out hb2)
        obtain ⟨⟨t0, t1, t2, t3⟩, tf⟩ := X0.out.below hb2
        have tf1 := tf 1
        have RX2 := hide (HX.out.below B2.out)
        have hlt2 : w1.heap.size ≤ w2.heap.size := hb2.size
        clear hG hb2 tf
        go_wp2_with fail
        refine (l4Put_any (some ⟨g, 0, none⟩) cv (restE t e.path true).length (restE t e.path true) e x e.chunks.length cc _ G2.out.rd rfl (by have := restE_len t e.path true; omega) (restE_small HS.out _ _) rfl RX2.out hp hc).mono ?_
        rintro r w3 ⟨g3, cv3, rfl, hG3, hb3⟩
        have G3 := hide hG3.rd
        have B3 := hide (below_next B2.out hb3)
        clear hG3 hb3
        go_wp2_with fail
        go_ret
        rw [HZ.out]
        exact ⟨_, cv3, rfl, G3.out, B3.out⟩
  · have kf3 : (e.kind == 3) = true := by rw [hk]; rfl
    have HZ := hide (over_white (t := t) (e := e) hk)
    clear hk
    go_wp2_with fail
    refine (l4Without_any a c t.length t e.path true w1 RW.out rfl (by omega) HS.out hp).mono ?_
    rintro r w2 ⟨g, cv, rfl, hG, hb2⟩
    have G2 := hide hG.rd
    have B2 := hide (below_next BA.out hb2)
    clear hG hb2
    go_wp2_with fail
    go_ret
    rw [HZ.out]
    exact ⟨_, cv, rfl, G2.out, B2.out⟩
  · have HZ := hide (show overE t e = putE (restE t e.path true) (kindE e 2) from by rw [over_put (by omega) (by omega)]; simp [asT, hk])
    have kf2 : (e.kind == 2) = false := by rw [hk]; rfl
    have kf3 : (e.kind == 3) = false := by rw [hk]; rfl
    have kf4 : (e.kind == 4) = true := by rw [hk]; rfl
    clear hk
    go_wp2_with fail
    refine (l4Without_any a c t.length t e.path true w1 RW.out rfl (by omega) HS.out hp).mono ?_
    rintro r w2 ⟨g, cv, rfl, hG, hb2⟩
    have G2 := hide hG
    have B2 := hide (below_next BA.out hb2)
    obtain ⟨⟨t0, t1, t2, t3⟩, tf⟩ := X0.out.below hb2
    have tf1 := tf 1
    have RX2 := hide (HX.out.below B2.out)
    have hlt2 : w1.heap.size ≤ w2.heap.size := hb2.size
    clear hG hb2 tf
    go_wp2_with fail
    have K3 : Hid (Kept (fun b => b = w.heap.size) w2 (w2.setCell ⟨w.heap.size, 1, none⟩ (.int .i64 2))) := hide (Kept.setCell (S := fun b => b = w.heap.size) (p := ⟨w.heap.size, 1, none⟩) (Kept.of_below (Below.refl _ _)) (fun _ => rfl) _)
    have RX3 := hide (HX.out.below (B2.out.setCell (p := ⟨w.heap.size, 1, none⟩) (Nat.le_refl _) (.int .i64 2)))
    have G3' := hide (G2.out.kept K3.out (fun b h1 _ h2 => by omega)).rd
    refine (l4Put_any (some ⟨g, 0, none⟩) cv (restE t e.path true).length (restE t e.path true) (kindE e 2) x e.chunks.length cc _ G3'.out rfl (by have := restE_len t e.path true; omega) (restE_small HS.out _ _) rfl RX3.out hp hc).mono ?_
    rintro r w3 ⟨g3, cv3, rfl, hG3, hb3⟩
    have G3 := hide hG3.rd
    have B3 := hide (below_next (B2.out.setCell (p := ⟨w.heap.size, 1, none⟩) (Nat.le_refl _) (.int .i64 2)) hb3)
    clear hG3 hb3
    go_wp2_with fail
    go_ret
    rw [HZ.out]
    exact ⟨_, cv3, rfl, G3.out, B3.out⟩
set_option maxRecDepth 100000 in
set_option maxHeartbeats 6400000 in
theorem l7Merge_any (a : Option Addr) (c n : Nat) (t : List En) (b : Option Addr) (d m : Nat) (L : List En) (w : World) (h : RdE w a t) (hn : n = t.length) (hl : t.length ≤ 900000) (hT : FitT t) (h2 : RdE w b L) (hm : m = L.length) (hl2 : L.length ≤ 12) (hL : Fit L) :
    Calls Tryz.prog 147 #[.slice a n c, .slice b m d] w fun r w' => ∃ av cv, r = .returned (.slice av (mergeE t L).length cv) ∧ GE w.heap.size w'.heap.size w' (.slice av (mergeE t L).length cv) (mergeE t L) ∧ Below w.heap.size w w' := by
  subst hn
  subst hm
  have HT := hide hT
  have HL := hide hL
  have HR2 := hide h2
  have HC := hide (l4Copy_any a c t.length t w h rfl (by omega) hT.fit.small)
  clear h h2 hT hL
  go_enter Tryz.func147, Tryz.ntmps147
  go_wp2_with fail
  refine HC.out.mono ?_
  rintro r w1 ⟨g, cv, rfl, -, hG, hb1⟩
  have G1 := hide hG.rd
  have B1 := hide hb1
  clear hG hb1 HC
  go_wp2_with fail
  go_loopw [5, 6] (fun v i wr => ∃ (k : Nat) (av : Option Addr) (cv : Nat), k ≤ L.length ∧ i = .int .i64 k ∧ v = .slice av (mergeE t (L.take k)).length cv ∧ Hid (RdE wr av (mergeE t (L.take k))) ∧ Hid (Below w.heap.size w wr)) (fun _ i _ => L.length - (intOf i).toNat)
  case atStart => exact ⟨0, some ⟨g, 0, none⟩, cv, Nat.zero_le _, rfl, rfl, G1, B1⟩
  case round =>
    obtain ⟨k, av, ac, hk, rfl, rfl, HA, HW⟩ := hrel
    have HV := hide (merge_view HT.out HL.out k hk).1
    have hml : (mergeE t (L.take k)).length ≤ 900012 := by have := merge_len (L.take k) t; rw [List.length_take] at this; omega
    by_cases hlt : k < L.length
    · obtain ⟨bb, off, e, x, cc, rfl, hb, he, c0, c1, c2, c3, hr⟩ := (HR2.out.below HW.out).at hlt
      have hsm := HL.out.small e (List.mem_of_getElem? he)
      have hef := HL.out.ent e (List.mem_of_getElem? he)
      have HN := hide (merge_next (t := t) he)
      have HRx := hide hr
      have HOne := hide (l7One_any av ac _ _ e x cc wr HA.out rfl (by omega) HV.out HRx.out hef hsm.1 hsm.2)
      clear he hr hef
      generalize mergeE t (L.take k) = M at *
      go_wp2_with fail
      refine HOne.out.mono ?_
      rintro r w2 ⟨av2, cv2, rfl, hr2, hb2⟩
      have R2 := hide hr2
      have B2 := hide (below_next HW.out hb2)
      clear hr2 hb2 c0 c1 c2 c3 HOne
      go_wp2_with fail
      go_roundw
      case rel => exact ⟨k + 1, av2, cv2, by omega, by go_num, by rw [HN.out], hide (by rw [HN.out]; exact R2.out), B2⟩
      case measure => simp [intOf]; omega
    · have HE := hide (show L.take k = L from List.take_of_length_le (by omega))
      rw [HE.out] at HA HV hml ⊢
      have HCo := hide (l4Copy_any av ac _ (mergeE t L) wr HA.out rfl (by omega) HV.out.fit.small)
      go_wp2_with fail
      refine HCo.out.mono ?_
      rintro r w2 ⟨g2, cv2, rfl, -, hG2, hb2⟩
      have G2 := hide hG2
      have B2 := hide (below_next HW.out hb2)
      have hsz := HW.out.size
      clear hG2 hb2 HCo
      go_wp2_with fail
      go_ret
      exact ⟨_, cv2, rfl, G2.out.mono (by omega), B2.out⟩
end Go.Proofs.YtebgfaohhhgdpaaGreat

namespace Go.Proofs.YtebgfaohhhgdpaaGreat
open Go.RowKit Go.Maps
set_option linter.unusedVariables false
attribute [local go_sem ↓] Go.wp_at_zero Go.wp_at_succ

set_option maxRecDepth 100000 in
set_option maxHeartbeats 3200000 in
theorem specLayersFault_any (a : Option Addr) (c n : Nat) (ls : List (List En)) (w : World) (h : RdL w a ls) (hn : n = ls.length) (hl : ls.length ≤ 1048576) (hs : SmallL ls) (hg : ∀ es ∈ ls, layFault es = layFaultP es) :
    Calls Tryz.prog 87 #[.slice a n c] w fun r w' => r = .returned (.int .i64 (layersP ls)) ∧ Below w.heap.size w w' := by
  subst hn
  have HR := hide h
  have HS := hide hs
  have HG := hide hg
  clear h hs hg
  by_cases h4 : 4 < ls.length
  · have HZ := hide (show layersP ls = 2 by simp [layersP, h4])
    have h4' : (4 : Int) < (ls.length : Int) := by omega
    go_enter Tryz.func87, Tryz.ntmps87
    go_wp2_with fail
    go_wp2_with fail
    go_ret
    exact ⟨by rw [HZ.out]; rfl, Below.refl _ _⟩
  · have HZ := hide (show layersP ls = lsFrom (ls.drop 0) by simp [layersP, h4])
    have h4' : ¬ (4 : Int) < (ls.length : Int) := by omega
    clear h4
    generalize layersP ls = V at *
    go_enter Tryz.func87, Tryz.ntmps87
    go_wp2_with fail
    go_loopw [3] (fun i wr => ∃ k : Nat, k ≤ ls.length ∧ i = .int .i64 k ∧ Hid (V = lsFrom (ls.drop k)) ∧ Hid (Below w.heap.size w wr)) (fun i _ => ls.length - (intOf i).toNat)
    case atStart => exact ⟨0, Nat.zero_le _, rfl, HZ, hide (Below.refl _ _)⟩
    case round =>
      obtain ⟨k, hk, rfl, HV, HW⟩ := hrel
      by_cases hlt : k < ls.length
      · obtain ⟨b, off, es, x, cc, rfl, hb, he, c0, hr⟩ := (HR.out.below HW.out).at hlt
        obtain ⟨hel, hsm⟩ := HS.out es (List.mem_of_getElem? he)
        have HLF := hide (l4Fault_any x cc es.length es wr hr rfl (by omega) hsm)
        rw [HG.out es (List.mem_of_getElem? he)] at HLF
        have HX := hide he
        clear he hr hsm
        by_cases hf : layFaultP es = 0
        · have HN := hide (HV.out.trans (lsFrom_next HX.out hf))
          rw [hf] at HLF
          clear hf
          go_wp2_with fail
          refine HLF.out.mono ?_
          rintro r w1 ⟨rfl, hb1⟩
          have B1 := hide (below_next HW.out hb1)
          clear hb1 c0
          go_wp2_with fail
          go_roundw
          case rel => exact ⟨k + 1, by omega, by go_num, HN, B1⟩
          case measure => simp [intOf]; omega
        · have HN := hide (HV.out.trans (lsFrom_bad HX.out hf))
          generalize layFaultP es = F at *
          have hf2 : (F != 0) = true := by simp; exact hf
          clear hf
          go_wp2_with fail
          refine HLF.out.mono ?_
          rintro r w1 ⟨rfl, hb1⟩
          have B1 := hide (below_next HW.out hb1)
          clear hb1 c0
          go_wp2_with fail
          go_ret
          exact ⟨by rw [HN.out]; rfl, B1.out⟩
      · have HN := hide (show V = 0 by rw [HV.out, List.drop_eq_nil_of_le (by omega)]; rfl)
        go_wp2_with fail
        go_ret
        exact ⟨by rw [HN.out]; rfl, HW.out⟩
set_option maxRecDepth 100000 in
set_option maxHeartbeats 3200000 in
theorem l7All_any (a : Option Addr) (c n : Nat) (ls : List (List En)) (w : World) (h : RdL w a ls) (hn : n = ls.length) (hz : layersP ls = 0) :
    Calls Tryz.prog 93 #[.slice a n c] w (ResT (malC ls) 0 (malL ls) w) := by
  subst hn
  obtain ⟨h4, hRs⟩ := layersP_zero.1 hz
  have X0 := hide (Box3.new w (.int .i64 0) (.int .i64 0) (.slice none 0 0) 29)
  have B0 := hide (below_alloc w (.cells #[.int .i64 0, .int .i64 0, .slice none 0 0] 29))
  have hlt0 : w.heap.size < (w.alloc (.cells #[.int .i64 0, .int .i64 0, .slice none 0 0] 29)).heap.size := by simp
  have B1 := hide (below_next B0.out (below_alloc _ (.cells #[] 53)))
  have X1 := hide (X0.out.below (below_alloc _ (.cells #[] 53)))
  have G1 := hide (GE.made (w.alloc (.cells #[.int .i64 0, .int .i64 0, .slice none 0 0] 29)))
  have hsz1 : (w.alloc (.cells #[.int .i64 0, .int .i64 0, .slice none 0 0] 29)).heap.size = w.heap.size + 1 := by simp
  rw [hsz1] at G1
  clear hsz1
  have HR := hide h
  have HZ := hide hz
  have HRs := hide hRs
  have HFs := hide (rights_fit hRs)
  clear h hz hRs
  go_enter Tryz.func93, Tryz.ntmps93
  go_wp2_with fail
  go_loopw [3, 4] (fun v i wr => ∃ (k : Nat) (va : Option Addr) (vc : Nat), k ≤ ls.length ∧ i = .int .i64 k ∧ v = .slice va (allE (ls.take k)).length vc ∧ Hid (Box3 wr w.heap.size (.int .i64 0) (.int .i64 0) (.slice none 0 0)) ∧ Hid (GE (w.heap.size + 1) wr.heap.size wr (.slice va (allE (ls.take k)).length vc) (allE (ls.take k))) ∧ Hid (Below w.heap.size w wr) ∧ Hid (∀ j, j ≤ k → (allE (ls.take j)).length ≤ 40)) (fun _ i _ => ls.length - (intOf i).toNat)
  case atStart => exact ⟨0, _, _, Nat.zero_le _, rfl, rfl, X1, G1, B1, hide (fun j hj => by rw [Nat.le_zero.1 hj]; simp [allE])⟩
  case round =>
    obtain ⟨k, va, vc, hk, rfl, rfl, HX, HG, HW, HJ⟩ := hrel
    have hfk := (all_view HFs.out k hk).1
    have h40 := HJ.out k (Nat.le_refl _)
    by_cases hlt : k < ls.length
    · obtain ⟨bb, off, L, x, cc, rfl, hbb, he, c0, hr⟩ := (HR.out.below HW.out).at hlt
      have hRL := HRs.out L (List.mem_of_getElem? he)
      have HN := hide (all_next he)
      have hm := l7Merge_any va vc _ (allE (ls.take k)) x cc L.length L wr HG.out.rd rfl (by omega) hfk hr rfl hRL.len (right_fit.1 hRL).1
      rw [← HN.out] at hm
      have HM := hide hm
      have hsw := HX.out.lt
      clear hm hRL hr he hfk h40 HN
      by_cases hmany : 40 < (allE (ls.take (k + 1))).length
      · have HCC := hide (mal_many HZ.out (k := k + 1) (by omega) hmany)
        have hg40 : (40 : Int) < ((allE (ls.take (k + 1))).length : Int) := by omega
        clear hmany
        go_wp2_with fail
        refine HM.out.mono ?_
        rintro r w3 ⟨av3, cv3, rfl, hG3, hb3⟩
        have B3 := hide (below_next HW.out hb3)
        obtain ⟨⟨t0, t1, t2⟩, t3, t4, t5⟩ := HX.out.below hb3
        clear hG3 hb3 c0
        go_wp2_with fail
        exact bodyPost_ret (v := .agg #[.int .i64 2, .int .i64 0, .slice none 0 0]) (by simp [results, Tryz.results93, go_sem, t0, t1, t2]) rfl (by rw [HCC.out.1, HCC.out.2]; exact ResT.bad (Nat.le_refl _) B3.out)
      · have hg40 : ¬ (40 : Int) < ((allE (ls.take (k + 1))).length : Int) := by omega
        have HJ2 := hide (show ∀ j, j ≤ k + 1 → (allE (ls.take j)).length ≤ 40 from fun j hj => by
          by_cases e : j = k + 1
          · rw [e]; omega
          · exact HJ.out j (by omega))
        clear hmany HJ
        go_wp2_with fail
        refine HM.out.mono ?_
        rintro r w3 ⟨av3, cv3, rfl, hG3, hb3⟩
        have B3 := hide (below_next HW.out hb3)
        have X3 := hide (HX.out.below hb3)
        have G3 := hide (hG3.mono (B' := w.heap.size + 1) (by omega))
        clear hG3 hb3 c0
        go_wp2_with fail
        go_roundw
        case rel => exact ⟨k + 1, av3, cv3, by omega, by go_num, rfl, X3, G3, B3, HJ2⟩
        case measure => simp [intOf]; omega
    · have HE := hide (show ls.take k = ls from List.take_of_length_le (by omega))
      have HCC := hide (mal_ok HZ.out (fun j hj => HJ.out j (by omega)))
      rw [HE.out] at HG ⊢
      clear HJ h40 hfk HE
      obtain ⟨⟨t0, t1, t2⟩, t3, t4, t5⟩ := HX.out
      generalize allE ls = M at *
      go_wp2_with fail
      exact bodyPost_ret (v := .agg #[.int .i64 0, .int .i64 0, .slice va M.length vc]) (by simp [results, Tryz.results93, go_sem, t0, t1, t2]) rfl (by rw [HCC.out.1, HCC.out.2]; exact ResT.of (Nat.lt_succ_self _) (Nat.le_refl _) rfl HG.out HW.out)
set_option maxRecDepth 100000 in
set_option maxHeartbeats 3200000 in
theorem specMergeAll_any (a : Option Addr) (c n : Nat) (ls : List (List En)) (w : World) (h : RdL w a ls) (hn : n = ls.length) (hl : ls.length ≤ 1048576) (hs : SmallL ls) (hg : ∀ es ∈ ls, layFault es = layFaultP es) :
    Calls Tryz.prog 41 #[.slice a n c] w (ResT (malC ls) 0 (malL ls) w) := by
  subst hn
  have X0 := hide (Box3.new w (.int .i64 0) (.int .i64 0) (.slice none 0 0) 29)
  have B0 := hide (below_alloc w (.cells #[.int .i64 0, .int .i64 0, .slice none 0 0] 29))
  have HR := hide h
  have HLF := hide (specLayersFault_any a c ls.length ls _ (h.below B0.out) rfl hl hs hg)
  clear h hs hg
  by_cases hz : layersP ls = 0
  · have HZ := hide hz
    rw [hz] at HLF
    clear hz
    go_enter Tryz.func41, Tryz.ntmps41
    go_wp2_with fail
    refine HLF.out.mono ?_
    rintro r w1 ⟨rfl, hb1⟩
    have B1 := hide (below_next B0.out hb1)
    have X1 := hide (X0.out.below hb1)
    have hlt := X1.out.lt
    clear hb1
    go_wp2_with fail
    refine (l7All_any a c ls.length ls w1 (HR.out.below B1.out) rfl HZ.out).mono ?_
    rintro r w2 ⟨av, cv, rfl, hG, hb2⟩
    have G2 := hide hG
    have B2 := hide (below_next B1.out hb2)
    obtain ⟨⟨t0, t1, t2⟩, t3, t4, t5⟩ := X1.out.below hb2
    clear hG hb2
    go_wp2_with fail
    exact bodyPost_ret (v := .agg #[.int .i64 (malC ls), .int .i64 0, .slice av (malL ls).length cv]) (by simp [results, Tryz.results41, go_sem, t0, t1, t2]) rfl (ResT.of hlt (Nat.le_refl _) rfl G2.out B2.out)
  · have HC := hide (mal_bad hz)
    generalize layersP ls = F at *
    have hz2 : (F != 0) = true := by simp; exact hz
    clear hz
    go_enter Tryz.func41, Tryz.ntmps41
    go_wp2_with fail
    refine HLF.out.mono ?_
    rintro r w1 ⟨rfl, hb1⟩
    have B1 := hide (below_next B0.out hb1)
    obtain ⟨⟨t0, t1, t2⟩, t3, t4, t5⟩ := X0.out.below hb1
    clear hb1
    go_wp2_with fail
    exact bodyPost_ret (v := .agg #[.int .i64 F, .int .i64 0, .slice none 0 0]) (by simp [results, Tryz.results41, go_sem, t0, t1, t2]) rfl (by rw [HC.out.1, HC.out.2]; exact ResT.bad (Nat.le_refl _) B1.out)
end Go.Proofs.YtebgfaohhhgdpaaGreat

namespace Go.Proofs.YtebgfaohhhgdpaaGreat
open Go.RowKit Go.Maps
set_option linter.unusedVariables false
attribute [local go_sem ↓] Go.wp_at_zero Go.wp_at_succ

theorem wpList_append_src {P : Program} {w : World} {ops : Array Oper} {rest : List Oper} {o : Oper} {a : Act} {Q : Exit → Act → World → Prop} (hgd : o.guard = none) (s x : Operand) (t : TypeId)
    (ho : o.op = .call { callee := .builtin .append, args := #[s, x], argTypes := #[t, t] })
    (base : Nat) (e : TypeId) (i : TypeInfo) (z : Value) (size bytes : Nat) (ht : P.underlying t = some (.slice e)) (hi : P.info? e = some i) (hz : i.zero = some z)
    (hsize : i.size = size) (hby : i.bytes = bytes) (hzs : z.cells.size = size) (hsz : 0 < size)
    (av0 : Option Addr) (n c0 : Nat) (xs : List Value) (hs : a.eval s = .slice av0 n c0) (hown : w.ownsRow base e size (.slice av0 n c0) n xs)
    (sp : Option Addr) (m sc : Nat) (cs : List Value) (hx : a.eval x = .slice sp m sc) (hcl : cs.length = m * size) (hsrc : cs ≠ [] → ∃ ad, sp = some ad ∧ ∀ (j : Nat) u, cs[j]? = some u → w.cell? (ad.add j) = some u) (h1 : ∀ u ∈ cs, u.oneCell' = true)
    (N : Nat) (hN : n + m = N) (h63 : n + m ≤ maxLen) (hbytes : (n + m) * bytes ≤ 140737488355328) (hbase : base ≤ w.heap.size)
    (h : ∀ av cv w', w'.ownsRow base e size (.slice av N cv) N (xs ++ cs) → Kept (fun b => (Value.slice av0 n c0).ownBlock = some b) w w' → wpList P ops Q rest (a.put o.dst (.slice av N cv)) w') :
    wpList P ops Q (o :: rest) a w := by
  cases sp with
  | some ad =>
    refine wpList_append_list hgd s x t ho base e i z size bytes ht hi hz hsize hby hzs hsz _ n xs hs hown ad m sc cs hx hcl (fun j u hj => ?_) h1 N hN h63 hbytes hbase h
    obtain ⟨ad', e1, h2⟩ := hsrc (by intro e; subst e; simp at hj)
    cases e1
    exact h2 j u hj
  | none =>
    have hc : cs = [] := by
      by_cases hc : cs = []
      · exact hc
      · obtain ⟨_, e1, _⟩ := hsrc hc; cases e1
    subst hc
    have hm : m = 0 := by
      simp only [List.length_nil] at hcl
      rcases Nat.mul_eq_zero.1 hcl.symm with h0 | h0
      · exact h0
      · omega
    subst hm
    have hN' : N = n := by omega
    subst hN'
    have hrun : (Builtin.append_ #[t, t] o.type #[.slice av0 N c0, .slice none 0 sc]).run P w = .ok (.slice av0 N c0) w := by
      rcases hown.2 with ⟨hv, h0⟩ | ⟨g, cap, cur, hv, -, -, hnc, -⟩
      · simp only [Value.slice.injEq] at hv
        obtain ⟨rfl, rfl, rfl⟩ := hv
        simp [Builtin.append_, run_underlying ht, sizeOf, typeInfo, hi, Builtin.lenOf, Builtin.firstCells]
      · simp only [Value.slice.injEq, true_and] at hv
        obtain ⟨rfl, rfl⟩ := hv
        simp [Builtin.append_, run_underlying ht, sizeOf, typeInfo, hi, Builtin.lenOf, Builtin.firstCells, hnc, storeCells]
    refine wpList_plain hgd fun K hK => ?_
    unfold Oper.wp execOp
    simp only [ho, resolve, invoke, builtin, Sem.run_bind, Sem.run_pure, Result.andThen_ok, List.map_toArray, List.map_cons, List.map_nil, hs, hx, hrun]
    exact hK _ _ (h av0 c0 w (by rw [List.append_nil]; exact hown) (Kept.refl _ _))
theorem rdL_row {w W : World} {B n c : Nat} {av : Option Addr} {ls : List (List En)} {U : List En} {u : Option Addr} {uc : Nat} {vs : List Value} (hO : W.ownsRow B 25 1 (.slice av n c) n (vs ++ [.slice u U.length uc])) (hB : Below w.heap.size w W) (hn : n = ls.length + 1) (hv : vs.length = ls.length)
    (hr : ∀ (i : Nat) (es : List En), ls[i]? = some es → ∃ x c, vs[i]? = some (Value.slice x es.length c) ∧ RdE w x es) (hU : RdE w u U) : RdL W av (ls ++ [U]) := by
  subst hn
  rcases hO.2 with ⟨hv0, h0⟩ | ⟨g, cap, cur, hv0, hb, hh, hnc, hcm, hcs, htake⟩
  · omega
  · simp only [Value.slice.injEq, true_and] at hv0
    obtain ⟨rfl, rfl⟩ := hv0
    have hlt := (hO.lt g rfl).2
    have hc : ∀ j, j < ls.length + 1 → W.cell? ⟨g, j, none⟩ = (vs ++ [.slice u U.length uc])[j]? := fun j hj => hO.cellAt j (by omega)
    have hat : ∀ i es, (ls ++ [U])[i]? = some es → ∃ x c, W.cell? ⟨g, 0 + i, none⟩ = some (.slice x es.length c) ∧ RdE W x es := fun i es he => by
      rw [Nat.zero_add]
      by_cases hi : i < ls.length
      · rw [List.getElem?_append_left hi] at he
        obtain ⟨y, c, hy, hre⟩ := hr i es he
        refine ⟨y, c, ?_, hre.below hB⟩
        rw [hc i (by omega), List.getElem?_append_left (by omega)]
        exact hy
      · have hi2 : i = ls.length := by
          have := (List.getElem?_eq_some_iff.1 he).1
          simp at this; omega
        subst hi2
        simp at he
        subst he
        exact ⟨u, uc, by rw [hc _ (by omega), List.getElem?_append_right (by omega)]; simp [hv], hU.below hB⟩
    intro _
    refine ⟨g, 0, fun i => ((ls ++ [U])[i]?.bind fun es => if h : (ls ++ [U])[i]? = some es then some (Classical.choose (hat i es h)) else none).getD none, fun i => ((ls ++ [U])[i]?.bind fun es => if h : (ls ++ [U])[i]? = some es then some (Classical.choose (Classical.choose_spec (hat i es h))) else none).getD 0, rfl, hlt, fun i es he => ?_⟩
    have h1 := Classical.choose_spec (Classical.choose_spec (hat i es he))
    simp only [he, Option.bind_some, dif_pos]
    exact h1
set_option maxRecDepth 100000 in
set_option maxHeartbeats 3200000 in
theorem l9All_any (a : Option Addr) (c n : Nat) (ls : List (List En)) (u : Option Addr) (uc m : Nat) (U : List En) (w : World) (h : RdL w a ls) (hn : n = ls.length) (hl : ls.length ≤ 1000000) (hU : RdE w u U) (hm : m = U.length) :
    Calls Tryz.prog 42 #[.slice a n c, .slice u m uc] w fun r w' => ∃ av cv, r = .returned (.slice av (ls ++ [U]).length cv) ∧ RdL w' av (ls ++ [U]) ∧ Below w.heap.size w w' := by
  subst hn
  subst hm
  obtain ⟨i1, ki, kz0, kz1, kz2⟩ := info_parts infoLs
  obtain ⟨vs, hvl, hvc, hv1, hvr⟩ := RdL.cells h
  have HVC := hide hvc
  have HV1 := hide hv1
  have HU := hide hU
  have HVN := hide (show vs.length = ls.length * 1 by omega)
  have HLen := hide (show (ls ++ [U]).length = ls.length + 1 by simp)
  have hml0 : 0 + ls.length ≤ maxLen := by unfold maxLen; omega
  have hmb0 : (0 + ls.length) * 24 ≤ 140737488355328 := by omega
  have hml1 : ls.length + 1 ≤ maxLen := by unfold maxLen; omega
  have hmb1 : (ls.length + 1) * 24 ≤ 140737488355328 := by omega
  have B0 := hide (below_alloc w (.cells #[] 25))
  have OWN0 : Hid ((w.alloc (.cells #[] 25)).ownsRow w.heap.size 25 1 (.slice (some ⟨w.heap.size, 0, none⟩) 0 0) 0 []) := hide (World.ownsRow_made w #[] 0 (Nat.le_refl _) (Nat.zero_le _) rfl)
  have HRd : Hid (∀ (W : World) (av : Option Addr) (cv : Nat), W.ownsRow w.heap.size 25 1 (.slice av (ls.length + 1) cv) (ls.length + 1) (vs ++ [.slice u U.length uc]) → Below w.heap.size w W → RdL W av (ls ++ [U])) := hide (fun W av cv hO hB => rdL_row hO hB rfl hvl hvr hU)
  clear h hvc hv1 hvr hvl hU
  generalize hNN : ls.length = N at *
  have HNN := hide hNN
  clear hNN
  go_enter Tryz.func42, Tryz.ntmps42
  go_wp2_with (first
    | (at_builtin; refine wpList_append_src rfl (.tmp 5) (.tmp 6) 24 rfl w.heap.size 25 i1 (.slice none 0 0) 1 24 Tryz.underlying24 ki kz0 kz1 kz2 rfl (by decide) (some ⟨w.heap.size, 0, none⟩) 0 0 [] rfl OWN0.out a N c vs rfl HVN.out (HVC.out _ B0.out) HV1.out N (by simp) hml0 hmb0 (by simp) ?_; intro av1 cv1 w1 ho1 hk1; have O1 := hide ho1; have B1 := hide (B0.out.trans (hk1.below (B := w.heap.size) B0.out.size (fun b hb e => by simp [Value.ownBlock] at e; omega))); have hs1 := B1.out.size; clear ho1 hk1)
    | (at_builtin; refine wpList_append_one rfl (.tmp 7) (.tmp 9) 24 rfl w.heap.size 25 i1 (.slice none 0 0) 1 24 Tryz.underlying24 ki kz0 kz1 kz2 rfl (by decide) _ _ _ rfl O1.out rfl rfl (by intro u hu; simp at hu; subst hu; rfl) hml1 hmb1 hs1 ?_; intro v' w2 ho2 hk2; have O2 := hide ho2; have B2 := hide (Kept.below_own B1.out hs1 O1.out hk2); clear ho2 hk2))
  obtain ⟨av2, cv2, hv2⟩ := ownsRow_shape O2.out
  subst hv2
  go_ret
  exact ⟨av2, ⟨cv2, by rw [HNN.out]; rfl⟩, HRd.out _ _ _ (by simpa using O2.out) B2.out, B2.out⟩
set_option maxRecDepth 100000 in
set_option maxHeartbeats 1600000 in
theorem l9Asked_any (a : Option Addr) (c n : Nat) (ls : List (List En)) (u : Option Addr) (uc m : Nat) (U : List En) (p : Bs) (w : World) (h : RdL w a ls) (hn : n = ls.length) (hl : ls.length ≤ 1000000) (hU : RdE w u U) (hm : m = U.length) (hs : SmallL (ls ++ [U])) (hg : ∀ es ∈ ls ++ [U], layFault es = layFaultP es) (hpl : p.length ≤ 1048576) :
    Calls Tryz.prog 38 #[.slice a n c, .slice u m uc, .string (str p)] w fun r w' => r = .returned (.int .i64 (askL (ls ++ [U]) p)) ∧ Below w.heap.size w w' := by
  subst hn
  subst hm
  have hsz := str_size p
  have HA := hide (l9All_any a c ls.length ls u uc U.length U w h rfl hl hU rfl)
  have HSL := hide hs
  have HG := hide hg
  have HLn := hide (show (ls ++ [U]).length ≤ 1048576 by rw [List.length_append]; simp; omega)
  have HPF : Hid (∀ w', Calls Tryz.prog 88 #[.string (str p)] w' fun e w2 => e = .returned (.int .i64 (faultP p)) ∧ Below w'.heap.size w' w2) := hide (fun w' => by have h1 := l3Fault_any (str p) w' (by omega); rw [str_data] at h1; exact h1)
  clear h hU hs hg
  generalize ls ++ [U] = al at *
  by_cases hz : layersP al = 0
  · have HZ := hide (show askL al p = faultP p by rw [askL, if_pos hz])
    go_enter Tryz.func38, Tryz.ntmps38
    go_wp2_with fail
    refine HA.out.mono ?_
    rintro r w1 ⟨av, cv, rfl, hr1, hb1⟩
    have B1 := hide hb1
    have HLF := hide (specLayersFault_any av cv al.length al w1 hr1 rfl HLn.out HSL.out HG.out)
    rw [hz] at HLF
    clear hr1 hb1
    go_wp2_with fail
    refine HLF.out.mono ?_
    rintro r w2 ⟨rfl, hb2⟩
    have B2 := hide (below_next B1.out hb2)
    clear hb2
    go_wp2_with fail
    refine (HPF.out w2).mono ?_
    rintro r w3 ⟨rfl, hb3⟩
    have B3 := hide (below_next B2.out hb3)
    clear hb3
    go_wp2_with fail
    go_ret
    exact ⟨by rw [HZ.out]; rfl, B3.out⟩
  · have HZ := hide (show askL al p = layersP al by rw [askL, if_neg hz])
    go_enter Tryz.func38, Tryz.ntmps38
    go_wp2_with fail
    refine HA.out.mono ?_
    rintro r w1 ⟨av, cv, rfl, hr1, hb1⟩
    have B1 := hide hb1
    have HLF := hide (specLayersFault_any av cv al.length al w1 hr1 rfl HLn.out HSL.out HG.out)
    generalize layersP al = F at *
    have hz2 : (F != 0) = true := by simp; exact hz
    clear hr1 hb1 hz
    go_wp2_with fail
    refine HLF.out.mono ?_
    rintro r w2 ⟨rfl, hb2⟩
    have B2 := hide (below_next B1.out hb2)
    clear hb2
    go_wp2_with fail
    go_ret
    exact ⟨by rw [HZ.out]; rfl, B2.out⟩
set_option maxRecDepth 100000 in
set_option maxHeartbeats 1600000 in
theorem l9Reply_any (a : Option Addr) (c n : Nat) (U : List En) (q : Int) (w : World) (h : RdE w a U) (hn : n = U.length) (hl : U.length ≤ 1048576) (hs : SmallE U) :
    Calls Tryz.prog 59 #[.slice a n c, .int .i64 q] w (ResG 0 q U w) := by
  subst hn
  have X0 := hide (Box3.new w (.int .i64 0) (.int .i64 0) (.slice none 0 0) 32)
  have B0 := hide (below_alloc w (.cells #[.int .i64 0, .int .i64 0, .slice none 0 0] 32))
  have HC := hide (l4Copy_any a c U.length U _ (h.below B0.out) rfl hl hs)
  clear h hs
  go_enter Tryz.func59, Tryz.ntmps59
  go_wp2_with fail
  refine HC.out.mono ?_
  rintro r w1 ⟨g, cv, rfl, -, hG, hb1⟩
  have G1 := hide (GW.of hG)
  have B1 := hide (below_next B0.out hb1)
  have hlt : w.heap.size < (w.alloc (.cells #[.int .i64 0, .int .i64 0, .slice none 0 0] 32)).heap.size := X0.out.lt
  obtain ⟨⟨t0, t1, t2⟩, t3, t4, t5⟩ := X0.out.below hb1
  clear hG hb1
  go_wp2_with fail
  exact bodyPost_ret (v := .agg #[.int .i64 0, .int .i64 q, .slice (some ⟨g, 0, none⟩) U.length cv]) (by simp [results, Tryz.results59, go_sem, t0, t1, t2]) rfl (ResG.of hlt (Nat.le_refl _) rfl G1.out B1.out)
end Go.Proofs.YtebgfaohhhgdpaaGreat

namespace Go.Proofs.YtebgfaohhhgdpaaGreat
open Go.RowKit Go.Sort Go.Shelf
set_option linter.unusedVariables false
def Tryz.sortB_ren : Go.Shelf.Ren := ⟨fun | 6 => 171 | 15 => 152 | 14 => 151 | 28 => 192 | 29 => 193 | 20 => 184 | 21 => 185 | 22 => 186 | 23 => 187 | 24 => 188 | 25 => 189 | 26 => 190 | 27 => 191 | 46 => 210 | 47 => 211 | 48 => 212 | 49 => 213 | 50 => 214 | 57 => 218 | n => n, fun | 22 => 57 | 24 => 66 | 25 => 117 | 3 => 3 | 39 => 159 | 0 => 0 | 53 => 171 | 55 => 194 | 4 => 4 | 46 => 186 | 45 => 185 | 50 => 190 | 5 => 5 | 9 => 9 | 66 => 203 | 70 => 207 | 76 => 210 | 77 => 211 | n => n, fun | n => n⟩
theorem Tryz.sortB : Go.Proofs.SlLaysF0.n6 Tryz.prog Tryz.sortB_ren := {
  mixed := by kernel_rfl
  f6 := ⟨Tryz.f171.name, by decide, Tryz.func171.trans (congrArg some (by kernel_rfl))⟩
  f14 := ⟨Tryz.f151.name, by decide, Tryz.func151.trans (congrArg some (by kernel_rfl))⟩
  f15 := Tryz.func152.trans (congrArg some (by kernel_rfl))
  f20 := ⟨Tryz.f184.name, by decide, Tryz.func184.trans (congrArg some (by kernel_rfl))⟩
  f21 := ⟨Tryz.f185.name, by decide, Tryz.func185.trans (congrArg some (by kernel_rfl))⟩
  f22 := ⟨Tryz.f186.name, by decide, Tryz.func186.trans (congrArg some (by kernel_rfl))⟩
  f23 := ⟨Tryz.f187.name, by decide, Tryz.func187.trans (congrArg some (by kernel_rfl))⟩
  f24 := ⟨Tryz.f188.name, by decide, Tryz.func188.trans (congrArg some (by kernel_rfl))⟩
  f25 := ⟨Tryz.f189.name, by decide, Tryz.func189.trans (congrArg some (by kernel_rfl))⟩
  f26 := ⟨Tryz.f190.name, by decide, Tryz.func190.trans (congrArg some (by kernel_rfl))⟩
  f27 := ⟨Tryz.f191.name, by decide, Tryz.func191.trans (congrArg some (by kernel_rfl))⟩
  f28 := Tryz.func192.trans (congrArg some (by kernel_rfl))
  f29 := Tryz.func193.trans (congrArg some (by kernel_rfl))
  f46 := ⟨Tryz.f210.name, by decide, Tryz.func210.trans (congrArg some (by kernel_rfl))⟩
  f47 := Tryz.func211.trans (congrArg some (by kernel_rfl))
  f48 := Tryz.func212.trans (congrArg some (by kernel_rfl))
  f49 := ⟨Tryz.f213.name, by decide, Tryz.func213.trans (congrArg some (by kernel_rfl))⟩
  f50 := ⟨Tryz.f214.name, by decide, Tryz.func214.trans (congrArg some (by kernel_rfl))⟩
  f57 := ⟨Tryz.f218.name, by decide, Tryz.func218.trans (congrArg some (by kernel_rfl))⟩
  t0 := Tryz.underlying0
  a0 := Tryz.isAgg0
  z0 := Tryz.sizeOf0
  v0 := Tryz.zeroValue0
  t3 := Tryz.underlying3
  a3 := Tryz.isAgg3
  z3 := Tryz.sizeOf3
  v3 := Tryz.zeroValue3
  t4 := Tryz.underlying4
  a4 := Tryz.isAgg4
  z4 := Tryz.sizeOf4
  v4 := Tryz.zeroValue4
  t5 := Tryz.underlying5
  a5 := Tryz.isAgg5
  z5 := Tryz.sizeOf5
  v5 := Tryz.zeroValue5
  t9 := Tryz.underlying9
  a9 := Tryz.isAgg9
  z9 := Tryz.sizeOf9
  v9 := Tryz.zeroValue9
  t22 := Tryz.underlying57
  a22 := Tryz.isAgg57
  z22 := Tryz.sizeOf57
  v22 := Tryz.zeroValue57
  t25 := Tryz.underlying117
  a25 := Tryz.isAgg117
  z25 := Tryz.sizeOf117
  v25 := Tryz.zeroValue117
  t39 := Tryz.underlying159
  a39 := Tryz.isAgg159
  z39 := Tryz.sizeOf159
  v39 := Tryz.zeroValue159
  t45 := Tryz.underlying185
  a45 := Tryz.isAgg185
  z45 := Tryz.sizeOf185
  v45 := Tryz.zeroValue185
  t46 := Tryz.underlying186
  a46 := Tryz.isAgg186
  z46 := Tryz.sizeOf186
  v46 := Tryz.zeroValue186
  t50 := Tryz.underlying190
  a50 := Tryz.isAgg190
  z50 := Tryz.sizeOf190
  v50 := Tryz.zeroValue190
  t53 := Tryz.underlying171
  a53 := Tryz.isAgg171
  z53 := Tryz.sizeOf171
  v53 := Tryz.zeroValue171
  t55 := Tryz.underlying194
  a55 := Tryz.isAgg194
  z55 := Tryz.sizeOf194
  v55 := Tryz.zeroValue194
  t66 := Tryz.underlying203
  a66 := Tryz.isAgg203
  z66 := Tryz.sizeOf203
  v66 := Tryz.zeroValue203
  t70 := Tryz.underlying207
  a70 := Tryz.isAgg207
  z70 := Tryz.sizeOf207
  v70 := Tryz.zeroValue207
  t76 := Tryz.underlying210
  a76 := Tryz.isAgg210
  z76 := Tryz.sizeOf210
  v76 := Tryz.zeroValue210
  t77 := Tryz.underlying211
  a77 := Tryz.isAgg211
  z77 := Tryz.sizeOf211
  v77 := Tryz.zeroValue211 }
end Go.Proofs.YtebgfaohhhgdpaaGreat

namespace Go.Proofs.YtebgfaohhhgdpaaGreat
open Go.RowKit Go.Sort
set_option linter.unusedVariables false

set_option maxRecDepth 100000 in
set_option maxHeartbeats 1600000 in
theorem sortItems_any (B g n c : Nat) (rs ss : List Rw) (w : World) (h : w.ownsRow B 66 4 (.slice (some ⟨g, 0, none⟩) n c) n (rowI rs)) (hn : n = rs.length) (h12 : n ≤ 1048577) (hp : ss.Perm rs) (hs : ss.Pairwise (fun x y => Op.bytesLess x.e.path y.e.path = true)) :
    Calls Tryz.prog 171 #[.slice (some ⟨g, 0, none⟩) n c, .func (.func 101) #[] #[]] w fun e w' => e = .returned (.tuple #[]) ∧ (∀ i q r, ss[i]? = some r → q < 4 → w'.cell? ⟨g, i * 4 + q, none⟩ = (cellsI r)[q]?) ∧ Kept (fun b => b = g) w w' := by
  subst hn
  haveI : Inhabited Rw := ⟨⟨⟨[], 0, 0, []⟩, none, 0⟩⟩
  have hg := (h.lt g rfl).2
  have hH : HoldsK cellsI 4 w g 0 rs.toArray := by
    intro j hj
    rw [size_flatK] at hj
    have hj4 : j < rs.length * 4 := by simpa using hj
    have h1 : j / 4 < rs.length := by omega
    obtain ⟨r, hr⟩ : ∃ r, rs[j / 4]? = some r := ⟨_, List.getElem?_eq_getElem h1⟩
    have hc := (h.cellAt (j / 4 * 4 + j % 4) (by omega)).trans (rowI_get rs (j / 4) (j % 4) _ hr (by omega))
    rw [show j / 4 * 4 + j % 4 = j by omega] at hc
    refine ⟨?_, h.frozenAt _⟩
    rw [Nat.zero_add, hc, get_flatK _ _ _ _ hj]
    have e1 : rs.toArray[j / 4]! = r := by
      have := List.getElem?_eq_some_iff.1 hr
      simp [h1, this.2]
    rw [e1]
    have hl : j % 4 < (cellsI r).length := by show j % 4 < 4; omega
    simp only [id]
    rw [List.getElem?_eq_getElem hl, getElem!_pos (cellsI r) (j % 4) hl]
  have eg : ∀ args w, (callFunc 101 args).run Tryz.prog w = .ok (.enter 101 args) w := enters_of Tryz.func101 (by kernel_rfl) rfl
  have hcon := AnyQ.slices_SortFunc Tryz.sortB 4 Tryz.isAgg66 Tryz.sizeOf66 cellsI (fun _ => rfl) (fun x v hv => rowI_one [x] v (by simpa [rowI] using hv)) (fun x y => cmpB x.e.path y.e.path) swo_path 101 #[] g 0 c rs.toArray w eg (fun _ _ _ _ x y => sortLit_any x y _) hH hg (by have h2 := h12; simpa using (by omega : rs.length < 4611686018427387904))
  refine (show Calls Tryz.prog 171 #[.slice (some ⟨g, 0, none⟩) rs.length c, .func (.func 101) #[] #[]] w _ from hcon).mono ?_
  rintro e w' ⟨he, d', m, os, hperm, hsort, rfl⟩
  obtain ⟨hsz, _, hpm⟩ := hperm
  have hsz' : d'.size = rs.length := by simpa using hsz
  have hpm' : d'.toList.Perm rs := by
    have e1 : (d'.extract 0 rs.toArray.size).toList = d'.toList := by simp [← hsz']
    have e2 : (rs.toArray.extract 0 rs.toArray.size).toList = rs := by simp
    rw [e1, e2] at hpm
    exact hpm
  have hnd : ss.Pairwise (fun x y => x.e.path ≠ y.e.path) := hs.imp (fun h => bl_ne h)
  have hnd' : d'.toList.Pairwise (fun x y => x.e.path ≠ y.e.path) := (hpm'.trans hp.symm).symm.pairwise hnd (fun h => h.symm)
  have hd : d'.toList = ss := by
    refine rise_unique (hpm'.trans hp.symm) ?_ hs
    rw [List.pairwise_iff_getElem]
    intro i j hi hj hij
    have hne := List.pairwise_iff_getElem.1 hnd' i j hi hj hij
    have hlt := hsort i j (Nat.zero_le _) hij (by simpa [← hsz'] using hj)
    have e1 : ltOf (fun x y : Rw => cmpB x.e.path y.e.path) d'[j]! d'[i]! = Op.bytesLess d'[j]!.e.path d'[i]!.e.path := cmpB_lt _ _
    rw [e1] at hlt
    have hi' : i < d'.size := by simpa using hi
    have hj' : j < d'.size := by simpa using hj
    rw [getElem!_pos d' i hi', getElem!_pos d' j hj'] at hlt
    simp only [Array.getElem_toList] at hne ⊢
    exact bl_total _ _ hlt (fun x => hne x.symm)
  have hK := holdsK_sortWorldK_c cellsI 4 w g 0 rs.toArray d' m os hH hg (by simpa using hsz')
  refine ⟨he, fun i q r hi hq => ?_, ?_⟩
  · rw [← hd] at hi
    have hi' : i < d'.size := by have := (List.getElem?_eq_some_iff.1 hi).1; simpa using this
    have := (hK.cell (i := i) (c := q) hi' hq).1
    rw [Nat.zero_add] at this
    rw [this]
    have e1 : d'[i]! = r := by
      rw [getElem!_pos d' i hi']
      have := (List.getElem?_eq_some_iff.1 hi).2
      simpa using this
    rw [e1]
    have hl : q < (cellsI r).length := hq
    rw [List.getElem?_eq_getElem hl, getElem!_pos (cellsI r) q hl]
  · refine ⟨rfl, rfl, rfl, ?_, fun k hk hn => ?_⟩
    · show w.heap.size ≤ ((w.heap.modify g _) ++ os).size
      simp
    · show ((w.heap.modify g _) ++ os)[k]? = w.heap[k]?
      rw [Array.getElem?_append_left (by simpa using hk), Array.getElem?_modify]
      have : ¬ g = k := fun e => hn e.symm
      simp [this]

end Go.Proofs.YtebgfaohhhgdpaaGreat

