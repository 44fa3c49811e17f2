/-
  Texts put together: SnqT SnqU IteH.
-/
import Derived.Test.YtolnlfnndnpiiaaGreatKGrows27
import Derived.Test.YtolnlfnndnpiiaaGreatKGrows26
import Derived.Test.YtolnlfnndnpiiaaGreatKGrows3
import Derived.Test.YtolnlfnndnpiiaaGreatKGrows6
namespace Go.Proofs.YtolnlfnndnpiiaaGreat
open Go.RowKit Go.Maps
set_option linter.unusedVariables false
attribute [local go_sem ↓] Go.wp_at_zero Go.wp_at_succ

set_option maxRecDepth 100000 in
set_option maxHeartbeats 6400000 in
theorem l12New2_e (a : Option Addr) (cap : Nat) (zs : List Int) (w : World) (h : Reads .u8 w a zs) (hu : U8 zs) (hl' : zs.length ≤ 1048576) :
    Calls Tryz.prog 52 #[.slice a zs.length cap] w fun r w' => ∃ (l : List Sn) (av : Option Addr) (cv : Nat) (nm pa : Bs), r = .returned (.tuple #[.slice av l.length cv, .string (str nm), .string (str pa)]) ∧ GoodS l ∧ SmallS l ∧ l.length ≤ 10 ∧ GS w.heap.size w' (.slice av l.length cv) l ∧ nm.length ≤ 5 ∧ pa.length ≤ 5 ∧ Below w.heap.size w w' := by
  have HR := hide h
  have HU := hide hu
  have hl : zs.length ≤ 2097152 := by omega
  clear h hu
  go_enter Tryz.func52, Tryz.ntmps52
  go_wp2_with fail
  refine (l1Source_any a cap zs w HR.out).mono ?_
  rintro r w1 ⟨rfl, s1, z1, b1⟩
  have S1 := hide (show SrcX w1 w.heap.size zs 0 from ⟨0, by decide, by decide, s1⟩)
  have B1 := hide b1
  have hw0 : w.heap.size < w1.heap.size := S1.out.lt
  clear s1 b1 HR
  obtain ⟨w0, hw0e⟩ : ∃ w0, w0 = w.heap.size := ⟨_, rfl⟩
  rw [← hw0e] at S1 hw0 ⊢
  have HW0 := hide hw0e
  clear hw0e
  go_wp2_with fail
  refine (l12Bent_e w0 zs 0 w1 S1.out HU.out (by decide) hl).mono ?_
  rintro r w2 ⟨l, av, cv, rfl, hB⟩
  have H := hide hB
  clear hB S1
  have T0 := hide ((TextsQ.new (Q := fun x => x.length ≤ 5) (w := w2) (t := 9) (vs := [[100], [101], [102], [97], [], [97, 98, 99, 100, 101]]) (by decide)).kept ((Kept.refl (fun b => b = w0) _).alloc (.cells #[.int .i64 0, .int .i64 1, .int .i64 2, .int .i64 0, .int .i64 1, .int .i64 3, .int .i64 4, .int .i64 5] 2)) (by have := H.out.src.lt; omega))
  have C4 := hide (cells8n (w2.alloc (.cells ([[100], [101], [102], [97], [], [97, 98, 99, 100, 101]].map vS).toArray 9)) 0 1 2 0 1 3 4 5 2)
  have H5 := hide ((H.out.below (below_alloc w2 (.cells ([[100], [101], [102], [97], [], [97, 98, 99, 100, 101]].map vS).toArray 9))).below (below_alloc _ (.cells #[.int .i64 0, .int .i64 1, .int .i64 2, .int .i64 0, .int .i64 1, .int .i64 3, .int .i64 4, .int .i64 5] 2)))
  have hg1 : w0 < w2.heap.size := H.out.src.lt
  have hsz : (w2.alloc (.cells ([[100], [101], [102], [97], [], [97, 98, 99, 100, 101]].map vS).toArray 9)).heap.size = w2.heap.size + 1 := by simp
  rw [hsz] at C4
  clear H hsz
  go_wp2_with fail
  refine (pick_e w0 (w2.heap.size + 1) 8 8 [0, 1, 2, 0, 1, 3, 4, 5] zs _ _ H5.out.src HU.out (by omega) hl (by decide) (by decide) rfl (by omega) (by simp) C4.out).mono ?_
  rintro e w3 ⟨j, hjv, rfl, s6, k6⟩
  have T1 := hide (T0.out.kept k6 (by omega))
  have H := hide (H5.out.keep hw0 k6 s6)
  clear s6 k6 H5 C4 T0
  have hj : 0 ≤ j ∧ j < 6 := by simp at hjv; omega
  obtain ⟨jn, rfl⟩ : ∃ m : Nat, j = m := ⟨j.toNat, by omega⟩
  clear hjv
  obtain ⟨nm, hxnm, hlnm⟩ := T1.out.2 jn (by simp; omega)
  have hbnm := T1.out.1
  have HXnm := hide hlnm
  clear hlnm T1
  have T0 := hide ((TextsQ.new (Q := fun x => x.length ≤ 5) (w := w3) (t := 9) (vs := [[], [97], [98], [122, 122]]) (by decide)).kept ((Kept.refl (fun b => b = w0) _).alloc (.cells #[.int .i64 0, .int .i64 1, .int .i64 2, .int .i64 1, .int .i64 3] 2)) (by have := H.out.src.lt; omega))
  have C4 := hide (cells5n (w3.alloc (.cells ([[], [97], [98], [122, 122]].map vS).toArray 9)) 0 1 2 1 3 2)
  have H5 := hide ((H.out.below (below_alloc w3 (.cells ([[], [97], [98], [122, 122]].map vS).toArray 9))).below (below_alloc _ (.cells #[.int .i64 0, .int .i64 1, .int .i64 2, .int .i64 1, .int .i64 3] 2)))
  have hg1 : w0 < w3.heap.size := H.out.src.lt
  have hsz : (w3.alloc (.cells ([[], [97], [98], [122, 122]].map vS).toArray 9)).heap.size = w3.heap.size + 1 := by simp
  rw [hsz] at C4
  clear H hsz
  go_wp2_with fail
  refine (pick_e w0 (w3.heap.size + 1) 5 5 [0, 1, 2, 1, 3] zs _ _ H5.out.src HU.out (by omega) hl (by decide) (by decide) rfl (by omega) (by simp) C4.out).mono ?_
  rintro e w4 ⟨j, hjv, rfl, s6, k6⟩
  have T1 := hide (T0.out.kept k6 (by omega))
  have H := hide (H5.out.keep hw0 k6 s6)
  clear s6 k6 H5 C4 T0
  have hj : 0 ≤ j ∧ j < 4 := by simp at hjv; omega
  obtain ⟨jn, rfl⟩ : ∃ m : Nat, j = m := ⟨j.toNat, by omega⟩
  clear hjv
  obtain ⟨pa, hxpa, hlpa⟩ := T1.out.2 jn (by simp; omega)
  have hbpa := T1.out.1
  have HXpa := hide hlpa
  clear hlpa T1
  have hw0e := HW0.out
  subst hw0e
  clear HW0
  have BB := hide (B1.out.trans (H.out.kept.below (B := w.heap.size) B1.out.size (fun b hb e => by omega)))
  have GG := hide (H.out.own.mono B1.out.size)
  have HGd := hide H.out.good
  have HSm := hide H.out.small
  have HT := hide H.out.ten
  clear H
  go_wp2_with fail
  go_ret3
  exact ⟨l, av, cv, nm, pa, rfl, HGd.out, HSm.out, HT.out, GG.out, HXnm.out, HXpa.out, BB.out⟩
set_option maxRecDepth 100000 in
set_option maxHeartbeats 1600000 in
theorem drawPrepareSnap_e (a : Option Addr) (cap : Nat) (zs : List Int) (w : World) (h : Reads .u8 w a zs) (hu : U8 zs) (hl' : zs.length ≤ 1048576) :
    Calls Tryz.prog 14 #[.slice a zs.length cap] w fun r w' => ∃ (l : List Sn) (av : Option Addr) (cv : Nat) (nm pa : Bs), r = .returned (.tuple #[.slice av l.length cv, .string (str nm), .string (str pa)]) ∧ GoodS l ∧ SmallS l ∧ l.length ≤ 10 ∧ GS w.heap.size w' (.slice av l.length cv) l ∧ nm.length ≤ 5 ∧ pa.length ≤ 5 ∧ Below w.heap.size w w' := by
  have HR := hide h
  have HU := hide hu
  clear h hu
  go_enter Tryz.func14, Tryz.ntmps14
  go_wp2_with fail
  refine (l12New2_e a cap zs w HR.out HU.out hl').mono ?_
  rintro r w1 ⟨l, av, cv, nm, pa, rfl, h1, h2, h3, h4, h5, h6, h7⟩
  have HH := hide (And.intro h1 (And.intro h2 (And.intro h3 (And.intro h4 (And.intro h5 (And.intro h6 h7))))))
  clear h1 h2 h3 h4 h5 h6 h7
  go_wp2_with fail
  go_ret3
  exact ⟨l, av, cv, nm, pa, rfl, HH.out⟩
end Go.Proofs.YtolnlfnndnpiiaaGreat

namespace Go.Proofs.YtolnlfnndnpiiaaGreat
set_option linter.unusedVariables false

theorem right_smallL {ls : List (List En)} (h : layersP ls = 0) : SmallL ls := fun es he => by
  have hr := (layersP_zero.1 h).2 es he
  exact ⟨by have := hr.len; omega, right_small hr⟩
theorem mal_small {ls : List (List En)} (h : layersP ls = 0) : (malL ls).length ≤ 40 ∧ SmallE (malL ls) := by
  by_cases h0 : malC ls = 0
  · have ht := mal_tree h0
    rw [malL, if_pos h0]
    exact ⟨(rightT_fit.1 ht).2, (rightT_fit.1 ht).1.fit.small⟩
  · rw [malL, if_neg h0]
    exact ⟨by simp, fun e he => by simp at he⟩
theorem bare_ok : layFaultP [] = 0 := right_P.2 right_nil
def quE : En := ⟨[47, 113], 2, 0, []⟩
theorem qu_ok : layFaultP [quE] = 0 := by decide
structure GrowsAll (l : List Sn) (nm pa : Bs) : Prop where
  right : RightS (putN l ⟨nm, pa, 1, false, []⟩)
  at_ : atS (putN l ⟨nm, pa, 1, false, []⟩) nm = some ⟨nm, pa, 1, false, []⟩
  fit : layersP (chainS (putN l ⟨nm, pa, 1, false, []⟩) ⟨nm, pa, 1, false, []⟩) = 0
  none : pa = [] → (chainS (putN l ⟨nm, pa, 1, false, []⟩) ⟨nm, pa, 1, false, []⟩).length = 1
  on : pa ≠ [] → ∃ p, atS l pa = some p ∧ atS (putN l ⟨nm, pa, 1, false, []⟩) pa = some p ∧ layersP (chainS l p) = 0 ∧ (chainS (putN l ⟨nm, pa, 1, false, []⟩) ⟨nm, pa, 1, false, []⟩).length = (chainS l p).length + 1 ∧ malL (chainS (putN l ⟨nm, pa, 1, false, []⟩) ⟨nm, pa, 1, false, []⟩) = malL (chainS l p) ∧ remR (putN l ⟨nm, pa, 1, false, []⟩) p = 7
  off : remR (putN l ⟨nm, pa, 1, false, []⟩) ⟨nm, pa, 1, false, []⟩ = 0
  len : (offN (putN l ⟨nm, pa, 1, false, []⟩) nm).length = l.length
  leaR : RightS (putN (putN l ⟨nm, pa, 1, false, []⟩) (leaS ⟨nm, pa, 1, false, []⟩ true))
  leaA : atS (putN (putN l ⟨nm, pa, 1, false, []⟩) (leaS ⟨nm, pa, 1, false, []⟩ true)) nm = some (leaS ⟨nm, pa, 1, false, []⟩ true)
  leaO : remR (putN (putN l ⟨nm, pa, 1, false, []⟩) (leaS ⟨nm, pa, 1, false, []⟩ true)) (leaS ⟨nm, pa, 1, false, []⟩ true) = 7
  addG : growR l ⟨nm, pa, 2, false, [quE]⟩ = 0
  addR : RightS (putN l ⟨nm, pa, 2, false, [quE]⟩)
  addA : atS (putN l ⟨nm, pa, 2, false, [quE]⟩) nm = some ⟨nm, pa, 2, false, [quE]⟩
theorem growsAll_of {l : List Sn} (hr : RightS l) {nm pa : Bs} (h : growR l ⟨nm, pa, 1, false, []⟩ = 0) : GrowsAll l nm pa := by
  have g := grows_of hr h (.inl rfl) bare_ok
  have ha : growR l ⟨nm, pa, 2, false, [quE]⟩ = 0 := by rw [growR_alike (l := l) (s := ⟨nm, pa, 2, false, [quE]⟩) (s' := ⟨nm, pa, 1, false, []⟩) rfl rfl]; exact h
  have g2 := grows_of hr ha (.inr rfl) qu_ok
  have hl := lease_right g.right g.at_ true
  have hf := chainS_fit g.right (atS_some g.at_).1
  refine ⟨g.right, g.at_, hf, fun hp => ?_, fun hp => ?_, (g.off rfl).1, (g.off rfl).2, hl.1, hl.2, g.leased _ rfl _, ha, g2.right, g2.at_⟩
  · rw [g.none hp]; rfl
  · obtain ⟨p, e1, e2, e3, e4⟩ := g.on hp
    have hpf := chainS_fit hr (atS_some e1).1
    refine ⟨p, e1, e2, hpf, by rw [e3]; simp, ?_, e4⟩
    rw [e3] at hf ⊢
    exact mal_bare hf hpf
end Go.Proofs.YtolnlfnndnpiiaaGreat

namespace Go.Proofs.YtolnlfnndnpiiaaGreat
open Go.RowKit
set_option linter.unusedVariables false

set_option maxHeartbeats 800000 in
theorem equal_any (a b : Option Addr) (ca cb : Nat) (xs ys : List Int) (w : World) (ha : Reads .i64 w a xs) (hb : Reads .i64 w b ys) (hl : xs.length ≤ 1048576) (hl2 : ys.length ≤ 1048576) :
    Calls Tryz.prog 127 #[.slice a xs.length ca, .slice b ys.length cb] w fun e w' => e = .returned (.bool (xs == ys)) ∧ ∃ n, w' = w.drewN n := by
  by_cases hlen : xs.length = ys.length
  · have hne : ((xs.length : Int) != (ys.length : Int)) = false := by simp [hlen]
    go_enter Tryz.func127, Tryz.ntmps127
    go_wp2
    go_loopw [13] (fun i wr => ∃ k : Nat, k ≤ xs.length ∧ i = .int .i64 k ∧ xs.take k = ys.take k ∧ ∃ n, wr = w.drewN n) (fun i _ => xs.length - (intOf i).toNat)
    case atStart => exact ⟨0, Nat.zero_le _, rfl, rfl, 0, rfl⟩
    case round =>
      obtain ⟨k, hk, rfl, htk, n, rfl⟩ := hrel
      have HT := hide htk
      clear htk
      by_cases hlt : k < xs.length
      · obtain ⟨b1, o1, rfl, hb1, hc1⟩ := ha (by intro e; simp [e] at hlt)
        obtain ⟨b2, o2, rfl, hb2, hc2⟩ := hb (by intro e; rw [e] at hlen; simp at hlen; simp [hlen] at hlt)
        obtain ⟨x, hx⟩ : ∃ x, x = xs.getD k 0 := ⟨_, rfl⟩
        obtain ⟨y, hy⟩ : ∃ y, y = ys.getD k 0 := ⟨_, rfl⟩
        have c1 : w.cell? ⟨b1, o1 + k, none⟩ = some (.int .i64 x) := by rw [hx]; exact hc1 k hlt
        have c2 : w.cell? ⟨b2, o2 + k, none⟩ = some (.int .i64 y) := by rw [hy]; exact hc2 k (by omega)
        have HX := hide hx
        have HY := hide hy
        clear hc1 hc2 ha hb hx hy
        have hk2 : k < ys.length := by omega
        by_cases heq : x = y
        · have hb : (x != y) = false := by simp [heq]
          have HE := hide heq
          clear heq
          go_wp2
          go_quiet (fail)
          go_wp2
          go_roundw
          case rel => exact ⟨k + 1, by omega, by go_num, take_eq_step hlt hk2 HT.out (by rw [← HX.out, ← HY.out]; exact HE.out), _, rfl⟩
          case measure => simp [intOf]; omega
        · have hb : (x != y) = true := by simp [heq]
          go_wp2
          go_quiet (fail)
          go_wp2
          go_ret
          exact ⟨ret_bool (ne_of_getD (k := k) (by rw [← HX.out, ← HY.out]; exact heq)).symm, _, World.drewN_drewN _ _ _⟩
      · go_wp2
        go_ret
        exact ⟨ret_bool (eq_of_take (k := k) (by omega) (by omega) HT.out).symm, _, rfl⟩
  · have hne : ((xs.length : Int) != (ys.length : Int)) = true := by simp; omega
    go_enter Tryz.func127, Tryz.ntmps127
    go_wp2
    go_ret
    have e : (xs == ys) = false := by simp; intro e; exact hlen (by rw [e])
    exact ⟨ret_bool e.symm, 0, rfl⟩

set_option maxHeartbeats 800000 in
theorem sameBytes_any (z y : Int) (a b : Option Addr) (ca cb : Nat) (xs ys : List Int) (w : World) (ha : Reads .i64 w a xs) (hb : Reads .i64 w b ys) (hl : xs.length ≤ 1048576) (hl2 : ys.length ≤ 1048576) :
    Calls Tryz.prog 86 #[.agg #[.int .i64 z, .slice a xs.length ca], .agg #[.int .i64 y, .slice b ys.length cb]] w fun e w' => e = .returned (.bool (decide (z = y) && (xs == ys))) ∧ Below w.heap.size w w' := by
  have HB := hide (below_next (below_alloc w (.cells #[.int .i64 z, .slice a xs.length ca] 86)) (below_alloc _ (.cells #[.int .i64 y, .slice b ys.length cb] 86)))
  have HR := hide ha
  have HR2 := hide hb
  clear ha hb
  by_cases h : z = y
  · have hb : (z == y) = true := by simp [h]
    have HE := hide (show (decide (z = y) && (xs == ys)) = (xs == ys) from by simp [h])
    clear h
    rw [HE.out]
    obtain ⟨Z, hZ⟩ : ∃ Z : Bool, Z = (xs == ys) := ⟨_, rfl⟩
    rw [← hZ]
    have HZ := hide hZ
    clear hZ HE
    go_enter Tryz.func86, Tryz.ntmps86
    go_wp2_with fail
    refine (equal_any a b ca cb xs ys _ (HR.out.below HB.out) (HR2.out.below HB.out) hl hl2).mono ?_
    rintro r w1 ⟨rfl, n, rfl⟩
    rw [← HZ.out]
    go_wp2_with fail
    cases Z
    · go_ret
      exact ⟨rfl, below_drewN HB.out n⟩
    · go_ret
      exact ⟨rfl, below_drewN HB.out n⟩
  · have hb : (z == y) = false := by simp [h]
    have HE := hide (show (decide (z = y) && (xs == ys)) = false from by simp [h])
    clear h
    rw [HE.out]
    go_enter Tryz.func86, Tryz.ntmps86
    go_wp2_with fail
    go_ret
    exact ⟨rfl, HB.out⟩

set_option maxHeartbeats 800000 in
theorem same_any (e f : En) (a b : Option Addr) (ca cb : Nat) (w : World) (ha : Reads .i64 w a e.chunks) (hb : Reads .i64 w b f.chunks) (hl : e.chunks.length ≤ 1048576) (hl2 : f.chunks.length ≤ 1048576) :
    Calls Tryz.prog 48 #[.agg #[.int .i64 e.size, .slice a e.chunks.length ca, .string (str e.path), .int .i64 e.kind], .agg #[.int .i64 f.size, .slice b f.chunks.length cb, .string (str f.path), .int .i64 f.kind]] w fun r w' => r = .returned (.bool (decide (e = f))) ∧ Below w.heap.size w w' := by
  have HB := hide (below_next (below_alloc w (.cells #[.int .i64 e.size, .slice a e.chunks.length ca, .string (str e.path), .int .i64 e.kind] 88)) (below_alloc _ (.cells #[.int .i64 f.size, .slice b f.chunks.length cb, .string (str f.path), .int .i64 f.kind] 88)))
  have HR := hide ha
  have HR2 := hide hb
  clear ha hb
  by_cases hp : e.path = f.path
  · have hs1 := str_yes hp
    by_cases hk : e.kind = f.kind
    · have hk1 : (e.kind == f.kind) = true := by simp [hk]
      have HE := hide (show decide (e = f) = (decide (e.size = f.size) && (e.chunks == f.chunks)) from by
        by_cases h1 : e.size = f.size
        · by_cases h2 : e.chunks = f.chunks
          · rw [decide_eq_true (En.same hp hk h1 h2)]; simp [h1, h2]
          · rw [decide_eq_false (fun x => h2 (by rw [x]))]; simp [h2]
        · rw [decide_eq_false (fun x => h1 (by rw [x]))]; simp [h1])
      clear hp hk
      generalize decide (e = f) = Z at HE ⊢
      go_enter Tryz.func48, Tryz.ntmps48
      go_wp2_with fail
      refine (sameBytes_any _ _ a b ca cb e.chunks f.chunks _ (HR.out.below HB.out) (HR2.out.below HB.out) hl hl2).mono ?_
      rintro r w1 ⟨rfl, hb1⟩
      rw [← HE.out]
      have HB1 := hide (below_next HB.out hb1)
      clear hb1 HE
      go_wp2_with fail
      cases Z
      · go_ret
        exact ⟨rfl, HB1.out⟩
      · go_ret
        exact ⟨rfl, HB1.out⟩
    · have hk1 : (e.kind == f.kind) = false := by simp [hk]
      have HE := hide (show decide (e = f) = false from decide_eq_false (fun x => hk (by rw [x])))
      clear hp hk
      generalize decide (e = f) = Z at HE ⊢
      go_enter Tryz.func48, Tryz.ntmps48
      go_wp2_with fail
      go_ret
      exact ⟨ret_bool HE.out.symm, HB.out⟩
  · have hs1 := str_no hp
    have HE := hide (show decide (e = f) = false from decide_eq_false (fun x => hp (by rw [x])))
    clear hp
    generalize decide (e = f) = Z at HE ⊢
    go_enter Tryz.func48, Tryz.ntmps48
    go_wp2_with fail
    go_ret
    exact ⟨ret_bool HE.out.symm, HB.out⟩

set_option maxHeartbeats 1600000 in
theorem sameLit_any (e f : En) (a b : Option Addr) (ca cb : Nat) (w : World) (ha : Reads .i64 w a e.chunks) (hb : Reads .i64 w b f.chunks) (hl : e.chunks.length ≤ 1048576) (hl2 : f.chunks.length ≤ 1048576) :
    Calls Tryz.prog 46 #[.agg #[.string (str e.path), .int .i64 e.kind, .int .i64 e.size, .slice a e.chunks.length ca], .agg #[.string (str f.path), .int .i64 f.kind, .int .i64 f.size, .slice b f.chunks.length cb]] w fun r w' => r = .returned (.bool (decide (e = f))) ∧ Below w.heap.size w w' := by
  have HB := hide (below_next (below_alloc w (.cells #[.string (str e.path), .int .i64 e.kind, .int .i64 e.size, .slice a e.chunks.length ca] 50)) (below_alloc _ (.cells #[.string (str f.path), .int .i64 f.kind, .int .i64 f.size, .slice b f.chunks.length cb] 50)))
  have F1 := hide ((Four.new w (.string (str e.path)) (.int .i64 e.kind) (.int .i64 e.size) (.slice a e.chunks.length ca) 50).below (below_alloc _ (.cells #[.string (str f.path), .int .i64 f.kind, .int .i64 f.size, .slice b f.chunks.length cb] 50)))
  have F2 := hide (Four.new (w.alloc (.cells #[.string (str e.path), .int .i64 e.kind, .int .i64 e.size, .slice a e.chunks.length ca] 50)) (.string (str f.path)) (.int .i64 f.kind) (.int .i64 f.size) (.slice b f.chunks.length cb) 50)
  have h1 : (w.alloc (.cells #[.string (str e.path), .int .i64 e.kind, .int .i64 e.size, .slice a e.chunks.length ca] 50)).heap.size = w.heap.size + 1 := by simp
  rw [h1] at F2
  clear h1
  have HR := hide (ha.below HB.out)
  have HR2 := hide (hb.below HB.out)
  clear ha hb
  obtain ⟨Z, hZ⟩ : ∃ Z : Bool, Z = decide (e = f) := ⟨_, rfl⟩
  rw [← hZ]
  have HZ := hide hZ
  clear hZ
  go_enter Tryz.func46, Tryz.ntmps46
  go_wp2_with fail
  generalize (w.alloc (.cells #[.string (str e.path), .int .i64 e.kind, .int .i64 e.size, .slice a e.chunks.length ca] 50)).alloc (.cells #[.string (str f.path), .int .i64 f.kind, .int .i64 f.size, .slice b f.chunks.length cb] 50) = W at *
  have KC : Hid (∀ w' : World, Below W.heap.size W w' → (w'.cell? ⟨w.heap.size, 0, none⟩ = some (.string (str e.path)) ∧ w'.cell? ⟨w.heap.size, 1, none⟩ = some (.int .i64 e.kind) ∧ w'.cell? ⟨w.heap.size, 2, none⟩ = some (.int .i64 e.size) ∧ w'.cell? ⟨w.heap.size, 3, none⟩ = some (.slice a e.chunks.length ca)) ∧ w'.cell? ⟨w.heap.size + 1, 0, none⟩ = some (.string (str f.path)) ∧ w'.cell? ⟨w.heap.size + 1, 1, none⟩ = some (.int .i64 f.kind) ∧ w'.cell? ⟨w.heap.size + 1, 2, none⟩ = some (.int .i64 f.size) ∧ w'.cell? ⟨w.heap.size + 1, 3, none⟩ = some (.slice b f.chunks.length cb)) := hide (fun w' hb => ⟨F1.out.below hb, F2.out.below hb⟩)
  obtain ⟨p0, p1, p2, p3⟩ := F1.out
  obtain ⟨q0, q1, q2, q3⟩ := F2.out
  go_region_held3 (fun w' => (w'.cell? ⟨w.heap.size, 0, none⟩ = some (.string (str e.path)) ∧ w'.cell? ⟨w.heap.size, 1, none⟩ = some (.int .i64 e.kind) ∧ w'.cell? ⟨w.heap.size, 2, none⟩ = some (.int .i64 e.size) ∧ w'.cell? ⟨w.heap.size, 3, none⟩ = some (.slice a e.chunks.length ca)) ∧ w'.cell? ⟨w.heap.size + 1, 0, none⟩ = some (.string (str f.path)) ∧ w'.cell? ⟨w.heap.size + 1, 1, none⟩ = some (.int .i64 f.kind) ∧ w'.cell? ⟨w.heap.size + 1, 2, none⟩ = some (.int .i64 f.size) ∧ w'.cell? ⟨w.heap.size + 1, 3, none⟩ = some (.slice b f.chunks.length cb)) (first | exact KC.out _ BB3.out | exact KC.out _ BB2.out | exact KC.out _ BB1.out | go_keep)
    ((first
      | (go_at_call 47; refine (itemOf_any _ _ _ _ _ _ _).mono ?_; rintro r w2 ⟨rfl, hb2⟩; have BB2 := hide (below_next BB1.out hb2); clear hb2)
      | (go_at_call 47; refine (itemOf_any _ _ _ _ _ _ _).mono ?_; rintro r w1 ⟨rfl, hb1⟩; have BB1 := hide ((Below.refl W.heap.size W).drew.trans hb1); clear hb1)
      | (go_at_call 48; refine (same_any e f _ _ _ _ _ (HR.out.below BB2.out) (HR2.out.below BB2.out) hl hl2).mono ?_; rintro r w3 ⟨rfl, hb3⟩; rw [← HZ.out]; have BB3 := hide (below_next BB2.out hb3); clear hb3)))
  go_wp2_with fail
  go_ret
  exact ⟨rfl, below_next HB.out BB3.out⟩

set_option maxRecDepth 100000 in
set_option maxHeartbeats 1600000 in
theorem equalFunc_any (a b : Option Addr) (c d n m : Nat) (es fs : List En) (w : World) (h : RdE w a es) (h2 : RdE w b fs) (hn : n = es.length) (hm : m = fs.length) (hl : es.length ≤ 1048576) (hl2 : fs.length ≤ 1048576) (hs : SmallE es) (hs2 : SmallE fs) :
    Calls Tryz.prog 45 #[.slice a n c, .slice b m d, .func (.func 46) #[] #[]] w fun r w' => r = .returned (.bool (decide (es = fs))) ∧ Below w.heap.size w w' := by
  subst hn hm
  obtain ⟨Z, hZ⟩ : ∃ Z : Bool, Z = decide (es = fs) := ⟨_, rfl⟩
  rw [← hZ]
  have HZ := hide hZ
  clear hZ
  have HA := hide h
  have HB := hide h2
  have HS := hide hs
  have HS2 := hide hs2
  clear h h2 hs hs2
  by_cases hlen : es.length = fs.length
  · have hne : ((es.length : Int) != (fs.length : Int)) = false := by simp [hlen]
    have HL := hide hlen
    clear hlen
    go_enter Tryz.func45, Tryz.ntmps45
    go_wp2_with fail
    go_loopw [17] (fun i wr => ∃ k : Nat, k ≤ es.length ∧ i = .int .i64 k ∧ Hid (es.take k = fs.take k) ∧ Hid (Below w.heap.size w wr)) (fun i _ => es.length - (intOf i).toNat)
    case atStart => exact ⟨0, Nat.zero_le _, rfl, hide rfl, hide (Below.refl _ _)⟩
    case round =>
      obtain ⟨k, hk, rfl, HT, HW⟩ := hrel
      by_cases hlt : k < es.length
      · obtain ⟨b1, o1, e, x1, c1, rfl, hb1, he, p0, p1, p2, p3, r1⟩ := (HA.out.below HW.out).at hlt
        obtain ⟨b2, o2, f, x2, c2, rfl, hb2, hf, q0, q1, q2, q3, r2⟩ := (HB.out.below HW.out).at (show k < fs.length by have := HL.out; omega)
        have hsm := HS.out e (List.mem_of_getElem? he)
        have hsm2 := HS2.out f (List.mem_of_getElem? hf)
        have HX := hide he
        have HX2 := hide hf
        have R1 := hide r1
        have R2 := hide r2
        clear he hf r1 r2
        have hkl : (k : Int) < (fs.length : Int) := by have := HL.out; omega
        have BA := hide (below_next (below_alloc wr (.cells #[.string (str e.path), .int .i64 e.kind, .int .i64 e.size, .slice x1 e.chunks.length c1] 50)) (below_alloc _ (.cells #[.string (str f.path), .int .i64 f.kind, .int .i64 f.size, .slice x2 f.chunks.length c2] 50)))
        go_wp2_with fail
        refine (sameLit_any e f _ _ _ _ _ (R1.out.below BA.out) (R2.out.below BA.out) hsm.2 hsm2.2).mono ?_
        rintro r w3 ⟨rfl, hb3⟩
        have HW3 := hide (below_next HW.out (below_next BA.out hb3))
        clear hb3 p0 p1 p2 p3 q0 q1 q2 q3
        by_cases hef : e = f
        · rw [decide_eq_true hef]
          have HT2 := hide (take_both HX.out HX2.out HT.out hef)
          clear hef
          go_wp2_with fail
          go_roundw
          case rel => exact ⟨k + 1, by omega, by go_num, HT2, HW3⟩
          case measure => simp [intOf]; omega
        · rw [decide_eq_false hef]
          have HE := hide (show Z = false from by rw [HZ.out]; exact ne_at HX.out HX2.out hef)
          clear hef
          go_wp2_with fail
          go_ret
          exact ⟨ret_bool HE.out.symm, HW3.out⟩
      · have hke : k = es.length := by omega
        have HE := hide (show Z = true from by rw [HZ.out]; exact decide_eq_true (take_whole HT.out (by omega) (by have := HL.out; omega)))
        clear hke
        go_wp2_with fail
        go_ret
        exact ⟨ret_bool HE.out.symm, HW.out⟩
  · have hne : ((es.length : Int) != (fs.length : Int)) = true := by simp; omega
    have HE := hide (show Z = false from by rw [HZ.out]; exact decide_eq_false (fun x => hlen (by rw [x])))
    clear hlen
    go_enter Tryz.func45, Tryz.ntmps45
    go_wp2_with fail
    go_ret
    exact ⟨ret_bool HE.out.symm, Below.refl _ _⟩

set_option maxRecDepth 100000 in
theorem implSameLayers_any (a b : Option Addr) (c d n m : Nat) (es fs : List En) (w : World) (h : RdE w a es) (h2 : RdE w b fs) (hn : n = es.length) (hm : m = fs.length) (hl : es.length ≤ 1048576) (hl2 : fs.length ≤ 1048576) (hs : SmallE es) (hs2 : SmallE fs) :
    Calls Tryz.prog 11 #[.slice a n c, .slice b m d] w fun r w' => r = .returned (.bool (decide (es = fs))) ∧ Below w.heap.size w w' := by
  have HF := hide (equalFunc_any a b c d n m es fs w h h2 hn hm hl hl2 hs hs2)
  clear h h2 hn hm hl hl2 hs hs2
  generalize decide (es = fs) = Z at HF ⊢
  go_enter Tryz.func11, Tryz.ntmps11
  go_wp2_with fail
  refine HF.out.mono ?_
  rintro r w1 ⟨rfl, hb⟩
  have HB := hide hb
  clear hb
  go_wp2_with fail
  go_ret
  exact ⟨rfl, HB.out⟩

end Go.Proofs.YtolnlfnndnpiiaaGreat

