/-
  Texts put together: EntY EntT DrawI FetBe FetBf FetBg FetBh FetBi HandE.
-/
import Derived.Test.YtejfcapocikjmaaGreatDoorKAsksCa19
import Derived.Test.YtejfcapocikjmaaGreatDoorKAsksCa20
import Derived.Test.YtejfcapocikjmaaGreatDoorKAsksCa9
import Derived.Test.YtejfcapocikjmaaGreatDoorKAsksCa10
import Derived.Test.YtejfcapocikjmaaGreatDoorKAsksCa6
import Derived.Test.YtejfcapocikjmaaGreatDoorKAsksCa11
import Derived.Test.YtejfcapocikjmaaGreatDoorKAsksCa17
import Derived.Test.YtejfcapocikjmaaGreatDoorKAsksCa14
import Derived.Test.YtejfcapocikjmaaGreatDoorKAsksCa3
import Derived.Lay
import Derived.LaidHandle
import Derived.LaidSub
import Derived.Stop.LaidTwo
namespace Go.Proofs.YtejfcapocikjmaaGreatDoor
open Go.RowKit Go.Maps
set_option linter.unusedVariables false



theorem rowR_set3 : ∀ (rs : List Rw) (j : Nat) (r : Rw) (e' : En), rs[j]? = some r → e'.chunks.length = r.e.chunks.length →
    (((rowR rs).set (j * 4) (.string (str e'.path))).set (j * 4 + 1) (.int .i64 e'.kind)).set (j * 4 + 2) (.int .i64 e'.size) = rowR (rs.set j ⟨e', r.a, r.c⟩)
  | [], j, r, e', h, _ => by simp at h
  | x :: rs, 0, r, e', h, hl => by
    simp only [List.getElem?_cons_zero, Option.some.injEq] at h
    subst h
    simp [rowR, cellsR, hl]
  | x :: rs, j + 1, r, e', h, hl => by
    have ih := rowR_set3 rs j r e' (by simpa using h) hl
    have e1 : rowR (x :: rs) = cellsR x ++ rowR rs := rfl
    have e2 : rowR ((x :: rs).set (j + 1) ⟨e', r.a, r.c⟩) = cellsR x ++ rowR (rs.set j ⟨e', r.a, r.c⟩) := rfl
    have hx : (cellsR x).length = 4 := rfl
    rw [e1, e2, ← ih, List.set_append_right _ _ (by omega), List.set_append_right _ _ (by omega), List.set_append_right _ _ (by omega), hx]
    rw [show (j + 1) * 4 - 4 = j * 4 by omega, show (j + 1) * 4 + 1 - 4 = j * 4 + 1 by omega, show (j + 1) * 4 + 2 - 4 = j * 4 + 2 by omega]

theorem GE.open {B T : Nat} {w : World} {a : Option Addr} {n c : Nat} {es : List En} {j : Nat} {e : En} (h : GE B T w (.slice a n c) es) (he : es[j]? = some e) :
    ∃ (G : Nat) (x : Option Addr) (y : Nat), a = some ⟨G, 0, none⟩ ∧ B ≤ G ∧ G < T ∧ w.cell? ⟨G, j * 4, none⟩ = some (.string (str e.path)) ∧ w.cell? ⟨G, j * 4 + 1, none⟩ = some (.int .i64 e.kind) ∧ w.cell? ⟨G, j * 4 + 2, none⟩ = some (.int .i64 e.size) ∧ w.cell? ⟨G, j * 4 + 3, none⟩ = some (.slice x e.chunks.length y) ∧
      (∀ i, w.frozen? ⟨G, i, none⟩ = false) ∧ Own .i64 w x e.chunks ∧ (∀ b, blkOf x b → B ≤ b ∧ b < T ∧ b ≠ G) ∧
      ∀ (e' : En) (w2 : World), e'.chunks.length = e.chunks.length → Own .i64 w2 x e'.chunks → Kept (blkOf x) (((w.setCell ⟨G, j * 4, none⟩ (.string (str e'.path))).setCell ⟨G, j * 4 + 1, none⟩ (.int .i64 e'.kind)).setCell ⟨G, j * 4 + 2, none⟩ (.int .i64 e'.size)) w2 →
        SameShape (((w.setCell ⟨G, j * 4, none⟩ (.string (str e'.path))).setCell ⟨G, j * 4 + 1, none⟩ (.int .i64 e'.kind)).setCell ⟨G, j * 4 + 2, none⟩ (.int .i64 e'.size)) w2 →
        GE B T w2 (.slice a n c) (es.set j e') := by
  obtain ⟨rs, hrs, h1, h2, h3, h4, h5⟩ := h
  have hj := (List.getElem?_eq_some_iff.1 he).1
  have hl : rs.length = es.length := by rw [← hrs, List.length_map]
  obtain ⟨r, hr⟩ : ∃ r, rs[j]? = some r := ⟨rs[j]'(by omega), List.getElem?_eq_getElem (by omega)⟩
  have hre : r.e = e := by
    have : (rs.map Rw.e)[j]? = some r.e := by rw [List.getElem?_map, hr]; rfl
    rw [hrs, he] at this
    exact (Option.some.inj this).symm
  rcases h1.2 with ⟨_, h0⟩ | ⟨G, cap, cur, h', hb, hh, hnc, hcm, hcs, htake⟩
  · omega
  · simp only [Value.slice.injEq] at h'
    obtain ⟨rfl, rfl, rfl⟩ := h'
    have hc := fun q hq => (h1.cellAt (j * 4 + q) (by omega)).trans (rowR_get rs j q r hr hq)
    have hm := List.mem_of_getElem? hr
    have hne : ∀ b, blkOf r.a b → b ≠ G := fun b hb e => ownsRow_apart h1 (h2 r hm) (by decide) (by subst e; rfl) (block_own hb)
    refine ⟨G, r.a, r.c, rfl, hb, h5 G rfl, ?_, ?_, ?_, ?_, fun i => h1.frozenAt i, ?_, fun b hb => ⟨((h2 r hm).lt b (block_own hb)).1, h4 r hm b hb, hne b hb⟩, ?_⟩
    · have := hc 0 (by decide); rw [← hre]; first | (simp [cellsR]; done) | (simpa [cellsR] using this)
    · have := hc 1 (by decide); rw [← hre]; first | (simp [cellsR]; done) | (simpa [cellsR] using this)
    · have := hc 2 (by decide); rw [← hre]; first | (simp [cellsR]; done) | (simpa [cellsR] using this)
    · have := hc 3 (by decide); rw [← hre]; first | (simp [cellsR]; done) | (simpa [cellsR] using this)
    · rw [← hre]; exact ownsRow_own (h2 r hm) rfl
    · intro e' w2 hlen ho hk hs
      have hlen' : e'.chunks.length = r.e.chunks.length := by rw [hre]; exact hlen
      have s1 := (((h1.stored (j * 4) (.string (str e'.path))).1.stored (j * 4 + 1) (.int .i64 e'.kind)).1.stored (j * 4 + 2) (.int .i64 e'.size)).1
      rw [rowR_set3 rs j r e' hr hlen'] at s1
      have hmapa : (rs.set j ⟨e', r.a, r.c⟩).map Rw.a = rs.map Rw.a := by
        rw [List.map_set]
        apply List.ext_getElem?
        intro i
        by_cases hi : i = j
        · subst hi; rw [List.getElem?_set_self (by simp; omega), List.getElem?_map, hr]; rfl
        · rw [List.getElem?_set_ne (fun e => hi e.symm)]
      have hk1 : Kept (fun b => b = G) w (((w.setCell ⟨G, j * 4, none⟩ (.string (str e'.path))).setCell ⟨G, j * 4 + 1, none⟩ (.int .i64 e'.kind)).setCell ⟨G, j * 4 + 2, none⟩ (.int .i64 e'.size)) :=
        Kept.setCell (S := fun b => b = G) (p := ⟨G, j * 4 + 2, none⟩) (Kept.two _ _ _ _ _ _) (fun _ => rfl) _
      refine ⟨rs.set j ⟨e', r.a, r.c⟩, by rw [List.map_set, hrs], ?_, ?_, ?_, ?_, h5⟩
      · rw [List.length_set]
        exact ownsRow_kept s1 hk (fun b hb hS => hne b hS (by simpa [Value.ownBlock, eq_comm] using hb))
      · intro r0 hr0
        obtain ⟨i, hi⟩ := List.mem_iff_getElem?.1 hr0
        by_cases e : i = j
        · subst e
          rw [List.getElem?_set_self (by omega)] at hi
          simp only [Option.some.injEq] at hi
          subst hi
          have r1 : (((w.setCell ⟨G, i * 4, none⟩ (.string (str e'.path))).setCell ⟨G, i * 4 + 1, none⟩ (.int .i64 e'.kind)).setCell ⟨G, i * 4 + 2, none⟩ (.int .i64 e'.size)).ownsRow B 2 1 (.slice r.a r.e.chunks.length r.c) r.e.chunks.length (r.e.chunks.map (Value.int .i64)) :=
            ownsRow_kept (h2 r hm) hk1 (fun b hb e => ownsRow_apart h1 (h2 r hm) (by decide) (by subst e; rfl) hb)
          show w2.ownsRow B 2 1 (.slice r.a e'.chunks.length r.c) e'.chunks.length (e'.chunks.map (Value.int .i64))
          rw [hlen']
          rcases (h2 r hm).2 with ⟨h', h0⟩ | ⟨g, cap', cur', h', _⟩
          · simp only [Value.slice.injEq] at h'
            have e1 : e'.chunks = [] := List.eq_nil_of_length_eq_zero (by omega)
            rw [h'.1, h'.2.2, h0, e1]
            exact World.ownsRow_nil _ _ _ _
          · simp only [Value.slice.injEq, true_and] at h'
            obtain ⟨hA, hC⟩ := h'
            rw [hA] at r1 ho ⊢
            refine own_back r1 hs (by simp [hlen']) (fun t ht => ?_)
            obtain ⟨b, off, e1, hb, hc⟩ := ho (by intro e; rw [e] at hlen'; simp at hlen'; omega)
            simp only [Option.some.injEq, Addr.mk.injEq, and_true] at e1
            obtain ⟨rfl, rfl⟩ := e1
            have := (hc t (by omega)).1
            rw [Nat.zero_add] at this
            rw [this]
            have ht2 : t < e'.chunks.length := by omega
            simp [List.getD_eq_getElem?_getD, ht2]
        · rw [List.getElem?_set_ne (fun x => e x.symm)] at hi
          have hm0 := List.mem_of_getElem? hi
          have r1 := ownsRow_kept (h2 r0 hm0) hk1 (fun b hb e => ownsRow_apart h1 (h2 r0 hm0) (by decide) (by subst e; rfl) hb)
          refine ownsRow_kept r1 hk (fun b hb hS => ?_)
          have hi' := (List.getElem?_eq_some_iff.1 hi)
          have hj' := (List.getElem?_eq_some_iff.1 hr)
          have hb0 := own_block hb
          rcases Nat.lt_or_gt_of_ne e with hlt | hlt
          · have := List.pairwise_iff_getElem.1 h3 i j hi'.1 hj'.1 hlt b (by rw [hi'.2]; exact hb0)
            rw [hj'.2] at this
            exact this hS
          · have := List.pairwise_iff_getElem.1 h3 j i hj'.1 hi'.1 hlt b (by rw [hj'.2]; exact hS)
            rw [hi'.2] at this
            exact this hb0
      · have : (rs.map Rw.a).Pairwise (fun x y => ∀ g, x.map Addr.block = some g → y.map Addr.block ≠ some g) := List.pairwise_map.2 h3
        rw [← hmapa] at this
        exact List.pairwise_map.1 this
      · intro r0 hr0 g hg
        have : r0.a ∈ (rs.set j ⟨e', r.a, r.c⟩).map Rw.a := List.mem_map_of_mem hr0
        rw [hmapa] at this
        obtain ⟨r2, hr2, e2⟩ := List.mem_map.1 this
        exact h4 r2 hr2 g (by rw [e2]; exact hg)

end Go.Proofs.YtejfcapocikjmaaGreatDoor

namespace Go.Proofs.YtejfcapocikjmaaGreatDoor
open Go.ChangeShapes Go.WideShapes Go.ChangeAt Go.RowKit
set_option linter.unusedVariables false

def zEn : En := ⟨[], 0, 0, []⟩
theorem rowR_set4 : ∀ (rs : List Rw) (j : Nat) (r : Rw), j < rs.length →
    ((((rowR rs).set (j * 4) (.string (str r.e.path))).set (j * 4 + 1) (.int .i64 r.e.kind)).set (j * 4 + 2) (.int .i64 r.e.size)).set (j * 4 + 3) (.slice r.a r.e.chunks.length r.c) = rowR (rs.set j r)
  | [], j, r, h => by simp at h
  | x :: rs, 0, r, h => by simp [rowR, cellsR]
  | x :: rs, j + 1, r, h => by
    have ih := rowR_set4 rs j r (by simpa using h)
    have e1 : rowR (x :: rs) = cellsR x ++ rowR rs := rfl
    have e2 : rowR ((x :: rs).set (j + 1) r) = cellsR x ++ rowR (rs.set j r) := rfl
    have hx : (cellsR x).length = 4 := rfl
    rw [e1, e2, ← ih, List.set_append_right _ _ (by omega), List.set_append_right _ _ (by omega), List.set_append_right _ _ (by omega), List.set_append_right _ _ (by omega), hx]
    rw [show (j + 1) * 4 - 4 = j * 4 by omega, show (j + 1) * 4 + 1 - 4 = j * 4 + 1 by omega, show (j + 1) * 4 + 2 - 4 = j * 4 + 2 by omega, show (j + 1) * 4 + 3 - 4 = j * 4 + 3 by omega]

theorem zeros_row (n : Nat) : (madeCells (Value.agg #[.string ⟨#[]⟩, .int .i64 0, .int .i64 0, .slice none 0 0]).cells (n * 4)).toList = rowR (List.replicate n ⟨zEn, none, 0⟩) := by
  have hl := rowR_length (List.replicate n ⟨zEn, none, 0⟩)
  rw [List.length_replicate] at hl
  apply List.ext_getElem?
  intro p
  by_cases hp : p < n * 4
  · have e : p = p / 4 * 4 + p % 4 := by omega
    have h1 : p / 4 < n := by omega
    have h2 : p % 4 < 4 := by omega
    rw [e, rowR_get _ (p / 4) (p % 4) ⟨zEn, none, 0⟩ (by simp [h1]) h2, ← e]
    have hm : p % 4 = 0 ∨ p % 4 = 1 ∨ p % 4 = 2 ∨ p % 4 = 3 := by omega
    rcases hm with hm | hm | hm | hm <;> simp [madeCells, hp, hm, cellsR, zEn, Value.cells, str]
  · rw [List.getElem?_eq_none (by simp [madeCells]; omega), List.getElem?_eq_none (by omega)]
theorem GE.zeros {B n T : Nat} {w : World} {v : Value} (h : w.ownsRow B 62 4 v n (madeCells (Value.agg #[.string ⟨#[]⟩, .int .i64 0, .int .i64 0, .slice none 0 0]).cells (n * 4)).toList) (hT : ∀ b, v.ownBlock = some b → b < T) : GE B T w v (List.replicate n zEn) := by
  refine ⟨List.replicate n ⟨zEn, none, 0⟩, by simp, by rw [List.length_replicate, ← zeros_row]; exact h, fun r hr => ?_, ?_, fun r hr g hg => ?_, hT⟩
  · rw [(List.mem_replicate.1 hr).2]; exact World.ownsRow_nil _ _ _ _
  · rw [List.pairwise_iff_getElem]
    intro i i' hi hi' hlt g hg
    simp at hg
  · rw [(List.mem_replicate.1 hr).2] at hg
    simp at hg



end Go.Proofs.YtejfcapocikjmaaGreatDoor

namespace Go.Proofs.YtejfcapocikjmaaGreatDoor
open Go.RowKit Go.Maps
set_option linter.unusedVariables false
attribute [local go_sem ↓] Go.wp_at_zero Go.wp_at_succ

theorem GE.push2 {B T : Nat} {w1 w2 : World} {v v' : Value} {es : List En} {rs : List Rw} {e : En} {a : Option Addr} {c : Nat} (he : rs.map Rw.e = es)
    (h1 : w1.ownsRow B 62 4 v es.length (rowR rs))
    (h2 : ∀ r ∈ rs, w1.ownsRow B 2 1 (.slice r.a r.e.chunks.length r.c) r.e.chunks.length (r.e.chunks.map (Value.int .i64)))
    (h3 : rs.Pairwise (fun r r' => ∀ g, r.a.map Addr.block = some g → r'.a.map Addr.block ≠ some g)) (h4 : ∀ r ∈ rs, ∀ g, r.a.map Addr.block = some g → g < T) (hB : B ≤ T) (hT : T ≤ w1.heap.size)
    (hown : w1.ownsRow T 2 1 (.slice a e.chunks.length c) e.chunks.length (e.chunks.map (Value.int .i64)))
    (hv' : w2.ownsRow B 62 4 v' (es.length + 1) (rowR rs ++ cellsR ⟨e, a, c⟩))
    (hk : Kept (fun b => v.ownBlock = some b) w1 w2) : GE B w2.heap.size w2 v' (es ++ [e]) := by
  have hg0 : ∀ g', a.map Addr.block = some g' → T ≤ g' ∧ g' < w1.heap.size := fun g' hg => hown.lt g' (block_own hg)
  have hsz := hk.size
  refine ⟨rs ++ [⟨e, a, c⟩], by rw [List.map_append, he]; rfl, ?_, ?_, ?_, ?_, fun b hb => (hv'.lt b hb).2⟩
  · rw [rowR_append, List.length_append]
    simpa [rowR] using hv'
  · intro r hr
    rcases List.mem_append.1 hr with hr | hr
    · exact ownsRow_kept (h2 r hr) hk (fun b hb hS => ownsRow_apart h1 (h2 r hr) (by decide) hS hb)
    · simp only [List.mem_singleton] at hr
      subst hr
      exact ownsRow_kept (ownsRow_mono hown hB) hk (fun b hb hS => ownsRow_apart h1 hown (by decide) hS hb)
  · rw [List.pairwise_append]
    refine ⟨h3, List.pairwise_singleton _ _, fun r hr r' hr' g hg hg' => ?_⟩
    simp only [List.mem_singleton] at hr'
    subst hr'
    have := h4 r hr g hg
    have := hg0 g hg'
    omega
  · intro r hr g hg
    rcases List.mem_append.1 hr with hr | hr
    · have := h4 r hr g hg
      omega
    · simp only [List.mem_singleton] at hr
      subst hr
      have := hg0 g hg
      omega
theorem GE.store2 {B T : Nat} {w1 : World} {G n c : Nat} {es : List En} {j : Nat} {e : En} {a : Option Addr} {cc : Nat} (h : GE B T w1 (.slice (some ⟨G, 0, none⟩) n c) es) (hn : n = es.length) (hj : j < es.length) (hB : B ≤ T) (hT : T ≤ w1.heap.size)
    (hown : w1.ownsRow T 2 1 (.slice a e.chunks.length cc) e.chunks.length (e.chunks.map (Value.int .i64))) :
    GE B w1.heap.size ((((w1.setCell ⟨G, j * 4, none⟩ (.string (str e.path))).setCell ⟨G, j * 4 + 1, none⟩ (.int .i64 e.kind)).setCell ⟨G, j * 4 + 2, none⟩ (.int .i64 e.size)).setCell ⟨G, j * 4 + 3, none⟩ (.slice a e.chunks.length cc)) (.slice (some ⟨G, 0, none⟩) n c) (es.set j e) := by
  subst hn
  obtain ⟨rs, hrs, h1, h2, h3, h4, h5⟩ := h
  have hl : rs.length = es.length := by rw [← hrs, List.length_map]
  have s1 := ((((h1.stored (j * 4) (.string (str e.path))).1.stored (j * 4 + 1) (.int .i64 e.kind)).1.stored (j * 4 + 2) (.int .i64 e.size)).1.stored (j * 4 + 3) (.slice a e.chunks.length cc)).1
  rw [rowR_set4 rs j ⟨e, a, cc⟩ (by omega)] at s1
  have hkp : Kept (fun b => b = G) w1 ((((w1.setCell ⟨G, j * 4, none⟩ (.string (str e.path))).setCell ⟨G, j * 4 + 1, none⟩ (.int .i64 e.kind)).setCell ⟨G, j * 4 + 2, none⟩ (.int .i64 e.size)).setCell ⟨G, j * 4 + 3, none⟩ (.slice a e.chunks.length cc)) :=
    Kept.setCell (S := fun b => b = G) (p := ⟨G, j * 4 + 3, none⟩) (Kept.setCell (S := fun b => b = G) (p := ⟨G, j * 4 + 2, none⟩) (Kept.two _ _ _ _ _ _) (fun _ => rfl) _) (fun _ => rfl) _
  have hnew : ∀ g, a.map Addr.block = some g → T ≤ g ∧ g < w1.heap.size := fun g hg => hown.lt g (block_own hg)
  refine ⟨rs.set j ⟨e, a, cc⟩, by rw [List.map_set, hrs], by rw [List.length_set]; exact s1, ?_, ?_, ?_, fun b hb => by have := h5 b hb; omega⟩
  · intro r0 hr0
    rcases List.mem_or_eq_of_mem_set hr0 with hr | rfl
    · exact ownsRow_kept (h2 r0 hr) hkp (fun b hb hS => ownsRow_apart h1 (h2 r0 hr) (by decide) (by subst hS; rfl) hb)
    · exact ownsRow_kept (ownsRow_mono hown hB) hkp (fun b hb hS => ownsRow_apart h1 hown (by decide) (by subst hS; rfl) hb)
  · rw [List.pairwise_iff_getElem]
    intro i i' hi hi' hlt g hg hg'
    rw [List.length_set] at hi hi'
    rw [List.getElem_set] at hg hg'
    by_cases e1 : j = i
    · rw [if_pos e1] at hg
      rw [if_neg (by omega)] at hg'
      have := h4 _ (List.getElem_mem hi') g hg'
      have := hnew g hg
      omega
    · rw [if_neg e1] at hg
      by_cases e2 : j = i'
      · rw [if_pos e2] at hg'
        have := h4 _ (List.getElem_mem hi) g hg
        have := hnew g hg'
        omega
      · rw [if_neg e2] at hg'
        exact List.pairwise_iff_getElem.1 h3 i i' hi hi' hlt g hg hg'
  · intro r0 hr0 g hg
    rcases List.mem_or_eq_of_mem_set hr0 with hr | rfl
    · have := h4 r0 hr g hg; omega
    · exact (hnew g hg).2
def LayD (w : World) (p : Nat) (zs : List Int) (T : Int) (es : List En) (v : Value) (w' : World) : Prop :=
  GoodH es ∧ es.length ≤ 13 ∧ SmallE es ∧ GE w.heap.size w'.heap.size w' v es ∧ SrcX w' p zs T ∧ Kept (fun b => b = p) w w'

set_option maxRecDepth 100000 in
set_option maxHeartbeats 6400000 in
theorem bentLay_e (p : Nat) (zs : List Int) (T : Int) (w : World) (h : SrcX w p zs T) (hu : U8 zs) (hT : T ≤ 100000) (hl : zs.length ≤ 2097152) :
    Calls Tryz.prog 14 #[.pointer (some ⟨p, 0, none⟩)] w fun r w' => ∃ (es : List En) (av : Option Addr) (cv : Nat), r = .returned (.slice av es.length cv) ∧ LayD w p zs (T + 1100) es (.slice av es.length cv) w' := by
  obtain ⟨i1, ki, kz0, kz1, kz2⟩ := info_parts Tryz.infoEn
  have hp := h.lt
  have HS := hide h
  have HU := hide hu
  clear h hu
  go_enter Tryz.func14, Tryz.ntmps14
  go_wp2_with fail
  refine (right_e p zs T _ HS.out HU.out (by omega) hl).mono ?_
  rintro r w1 ⟨es, lv, lc, rfl, hR, hG1, s1, k1⟩
  have HRi := hide hR
  have G1 := hide hG1
  have S1 := hide s1
  have K1 := hide k1
  clear hR hG1 s1 k1 HS
  go_wp2_with fail
  refine (next_e p zs _ 16 _ S1.out HU.out (by omega) (by decide) (by decide) hl).mono ?_
  rintro r w2 ⟨i, rfl, hi, s2, k2⟩
  have S2 := hide s2
  have K2 := hide (K1.out.trans k2)
  have G2 := hide (G1.out.keptP k2 hp)
  have hl12 := HRi.out.len
  have hsz2 := K2.out.size
  clear s2 k2 G1 S1 K1
  by_cases h0 : i = 0
  · subst h0
    go_wp2_with fail
    refine (bentEntry_e p zs _ _ S2.out HU.out (by omega) hl).mono ?_
    rintro r w3 ⟨e, a, c, rfl, ⟨hel, hec⟩, ho3, s3, k3⟩
    have G3 := hide (G2.out.kept k3 (fun b h1 _ e => by omega))
    have S3 := hide s3
    have K3 := hide (K2.out.trans k3)
    have O3 := hide ho3
    have hs3 := k3.size
    clear ho3 s3 k3
    obtain ⟨rs, g1, g2, g3, g4, g5, g6⟩ := G3.out
    have Q1 := hide g1
    have Q2 := hide g2
    have Q3 := hide g3
    have Q4 := hide g4
    have Q5 := hide g5
    clear g1 g2 g3 g4 g5 g6
    have hm1 : es.length + 1 ≤ maxLen := by unfold maxLen; omega
    have hm1' : (es.length + 1) * 56 ≤ 140737488355328 := by omega
    go_wp2_with (at_builtin; refine wpList_append_put rfl (.tmp 10) (.tmp 13) 29 rfl w.heap.size 62 i1 (.agg #[.string ⟨#[]⟩, .int .i64 0, .int .i64 0, .slice none 0 0]) 4 56 Tryz.underlying29 ki kz0 kz1 kz2 rfl (by decide) _ _ _ rfl Q2.out _ rfl rfl rfl (by intro u hu; simp at hu; rcases hu with rfl | rfl | rfl | rfl <;> rfl) hm1 hm1' (by omega) ?_; intro av4 cv4 w4 hown4 hk4; have O4 := hide hown4; have K4 := hide hk4; clear hown4 hk4)
    go_ret
    refine ⟨es ++ [e], av4, cv4, by rw [List.length_append]; rfl, goodH_snoc HRi.out.rise HRi.out.home, by rw [List.length_append]; simp; omega, fun y hy => ?_, ?_, ?_, ?_⟩
    · rcases List.mem_append.1 hy with hy | hy
      · exact right_small HRi.out y hy
      · simp only [List.mem_singleton] at hy; subst hy; omega
    · rw [List.length_append]
      exact GE.push2 Q1.out Q2.out Q3.out Q4.out Q5.out (by omega) (by omega) O3.out O4.out K4.out
    · exact (S3.out.kept K4.out (fun b hb e => by have := (Q2.out.lt b e).1; omega)).mono (by omega)
    · exact K3.out.trans_own K4.out (fun b hb e => by have := (Q2.out.lt b e).1; omega)
  · by_cases h1 : i = 1
    · subst h1
      by_cases hpos : 0 < es.length
      · have hpos' : (0 : Int) < (es.length : Int) := by omega
        obtain ⟨g, rfl, -⟩ := G2.out.addr rfl (.inl hpos)
        go_wp2_with fail
        refine (bentEntry_e p zs _ _ S2.out HU.out (by omega) hl).mono ?_
        rintro r w3 ⟨e, a, c, rfl, ⟨hel, hec⟩, ho3, s3, k3⟩
        have G3 := hide (G2.out.kept k3 (fun b h1 _ e => by omega))
        have S3 := hide s3
        have K3 := hide (K2.out.trans k3)
        have O3 := hide ho3
        have hs3 := k3.size
        clear ho3 s3 k3
        have he0 : es[0]? = some es[0] := List.getElem?_eq_getElem hpos
        obtain ⟨G, x', y', hGe, hg1, hg2, m0, m1, m2, m3, mf, -⟩ := G3.out.open he0
        simp only [Option.some.injEq, Addr.mk.injEq, and_true] at hGe
        subst hGe
        have mf0 := mf 0
        have mf1 := mf 1
        have mf2 := mf 2
        have mf3 := mf 3
        simp only [Nat.zero_mul, Nat.zero_add] at m0 m1 m2 m3
        generalize es[0] = z0 at *
        clear mf he0
        have HST := hide (GE.store2 (j := 0) G3.out rfl hpos (by omega) (by omega) O3.out)
        simp only [Nat.zero_mul, Nat.zero_add] at HST
        go_wp2_with fail
        go_ret
        have hk : Kept (fun b => b = g) w3 ((((w3.setCell ⟨g, 0, none⟩ (.string (str e.path))).setCell ⟨g, 1, none⟩ (.int .i64 e.kind)).setCell ⟨g, 2, none⟩ (.int .i64 e.size)).setCell ⟨g, 3, none⟩ (.slice a e.chunks.length c)) :=
          Kept.setCell (S := fun b => b = g) (p := ⟨g, 3, none⟩) (Kept.setCell (S := fun b => b = g) (p := ⟨g, 2, none⟩) (Kept.two _ _ _ _ _ _) (fun _ => rfl) _) (fun _ => rfl) _
        have hgood : GoodH (es.set 0 e) := by
          cases hes : es with
          | nil => rw [hes] at hpos; simp at hpos
          | cons r0 tl =>
            have := HRi.out
            rw [hes] at this
            exact goodH_set this
        refine ⟨es.set 0 e, some ⟨g, 0, none⟩, lc, by rw [List.length_set]; rfl, hgood, by rw [List.length_set]; omega, fun y hy => ?_, ?_, ?_, ?_⟩
        · rcases List.mem_or_eq_of_mem_set hy with hy | rfl
          · exact right_small HRi.out y hy
          · omega
        · rw [List.length_set]
          simpa [World.setCell] using HST.out
        · exact (S3.out.kept hk (fun b hb e => by omega)).mono (by omega)
        · exact K3.out.trans_own hk (fun b hb e => by omega)
      · have hpos' : ¬ (0 : Int) < (es.length : Int) := by omega
        go_wp2_with fail
        go_ret
        exact ⟨es, lv, lc, rfl, goodH_rise HRi.out.rise, by omega, right_small HRi.out, G2.out, S2.out.mono (by omega), K2.out⟩
    · by_cases h2 : i = 2
      · subst h2
        have hby : i1.bytes * 13 ≤ 281474976710656 := by rw [kz2]; omega
        have hml : 13 ≤ maxLen := by unfold maxLen; omega
        go_wp2_with (at_make; refine wpList_make_full _ rfl (.const (.int .i64 13)) (.const (.int .i64 13)) 29 rfl w2.heap.size 62 i1 (.agg #[.string ⟨#[]⟩, .int .i64 0, .int .i64 0, .slice none 0 0]) 4 Tryz.underlying29 ki kz0 kz1 .i64 .i64 _ _ 13 rfl rfl rfl rfl hby hml (Nat.le_refl _) ?_; intro w3 ho3 hg3; have O3 := hide ho3; have GW := hide hg3; clear ho3 hg3)
        have B3 : Hid (Below w2.heap.size w2 w3) := (Below.refl _ _).grown GW.out (Nat.le_refl _) (fun k hk => by simp at hk)
        have G3 := hide (GE.mono (B' := w.heap.size) (GE.zeros (T := w3.heap.size) O3.out (fun b hb => (O3.out.lt b hb).2)) (by omega))
        have hlr : (List.replicate 13 zEn).length = 13 := by simp
        go_wp2_with fail
        go_ret
        refine ⟨List.replicate 13 zEn, some ⟨w2.heap.size, 0, none⟩, 13, by rw [hlr]; rfl, goodH_first (e := zEn) (tl := List.replicate 12 zEn) (by decide), by rw [hlr]; decide, fun y hy => ?_, by rw [hlr]; exact G3.out, (S2.out.below B3.out).mono (by omega), K2.out.trans (Kept.of_below B3.out)⟩
        rw [(List.mem_replicate.1 hy).2]
        simp [zEn]
      · have e0 : ((i : Int) == 0) = false := by simp; omega
        have e1 : ((i : Int) == 1) = false := by simp; omega
        have e2 : ((i : Int) == 2) = false := by simp; omega
        clear h0 h1 h2
        go_wp2_with fail
        go_ret
        exact ⟨es, lv, lc, rfl, goodH_rise HRi.out.rise, by omega, right_small HRi.out, G2.out, S2.out.mono (by omega), K2.out⟩


end Go.Proofs.YtejfcapocikjmaaGreatDoor

namespace Go.Proofs.YtejfcapocikjmaaGreatDoor
open Go.RowKit Go.Maps
set_option linter.unusedVariables false
set_option maxRecDepth 100000 in
set_option maxHeartbeats 3200000 in
theorem drawAskLayer_e (HBent : BentC) (a0 : Option Addr) (cap : Nat) (zs : List Int) (w : World) (h : Reads .u8 w a0 zs) (hu : U8 zs) (hl : zs.length ≤ 1048576) :
    Calls Tryz.prog 5 #[.slice a0 zs.length cap] w fun e w' => ∃ wa wk W fa fc F ca cc n D P la lc es, e = .returned (.tuple #[.agg #[.slice wa (List.length W) wk, .slice fa (List.length F) fc, .slice ca n cc], .slice la (List.length es) lc]) ∧ RdF w' wa W fa F ca D P n ∧ F.length ≤ fc ∧ Sm W F P n ∧ GoodH es ∧ es.length ≤ 13 ∧ SmallE es ∧ RdE w' la es ∧ Below w.heap.size w w' := by
  have B0 := hide (below_alloc w (.cells #[.slice none 0 0, .slice none 0 0, .slice none 0 0] 28))
  have R0 := hide (Bx3.new w (.slice none 0 0) (.slice none 0 0) (.slice none 0 0) 28)
  have HZ0 : Hid ((w.alloc (.cells #[.slice none 0 0, .slice none 0 0, .slice none 0 0] 28)).heap.size = w.heap.size + 1) := hide (by simp)
  have HR := hide (h.below B0.out)
  have HU := hide hu
  clear h hu
  go_enter Tryz.func5, Tryz.ntmps5
  go_wp2_with fail
  generalize w.alloc (.cells #[.slice none 0 0, .slice none 0 0, .slice none 0 0] 28) = W0 at *
  refine (l1Source_any a0 cap zs W0 HR.out).mono ?_
  rintro e w1 ⟨rfl, s1, hz1, b1⟩
  have hz1' : w1.heap.size = w.heap.size + 2 := by have := HZ0.out; omega
  have HZ1 := hide hz1'
  rw [HZ0.out] at s1
  have S1 : Hid (SrcX w1 (w.heap.size + 1) zs 0) := hide ⟨0, by omega, by omega, s1⟩
  have R1 := hide (R0.out.below b1)
  have B1 := hide (below_next B0.out b1)
  rw [HZ0.out]
  clear s1 hz1 b1 R0 B0 HR hz1' HZ0
  go_wp2_with fail
  refine (HBent (w.heap.size + 1) zs 0 w1 S1.out HU.out (by decide) hl).mono ?_
  rintro e w2 ⟨wa, wk, W, fa, fc, F, ca, cc, n, D, P, rfl, ho2, hsm, s2, k2⟩
  have hz2 := k2.size
  have A2 := hide (below_alloc w2 (.cells #[.slice wa W.length wk, .slice fa F.length fc, .slice ca n cc] 28))
  have X2 := hide (Bx3.new w2 (.slice wa W.length wk) (.slice fa F.length fc) (.slice ca n cc) 28)
  have R2 := hide ((R1.out.kept k2 (by omega)).below A2.out)
  have O2 := hide ((ho2.below A2.out).mono (B' := w.heap.size + 2) (by have := HZ1.out; omega))
  have S2 := hide (s2.below A2.out)
  have HSm := hide hsm
  have hfc := ho2.fcap
  have B2 := hide ((B1.out.trans (k2.below (B := w.heap.size) B1.out.size (fun k hk e => by omega))).trans (A2.out.mono (by have := B1.out.size; omega)))
  have hfb : w.heap.size + 2 ≤ w2.heap.size := by have := HZ1.out; omega
  clear ho2 hsm s2 k2 R1 S1 B1 HZ1 hz2
  have HZ2 : Hid (w2.heap.size < (w2.alloc (.cells #[.slice wa W.length wk, .slice fa F.length fc, .slice ca n cc] 28)).heap.size) := hide (by simp)
  obtain ⟨⟨x0, x1, x2⟩, -, -, -⟩ := X2.out
  go_wp2_with fail
  generalize w2.alloc (.cells #[.slice wa W.length wk, .slice fa F.length fc, .slice ca n cc] 28) = W2 at *
  obtain ⟨fb, hfbe⟩ : ∃ fb, fb = w2.heap.size := ⟨_, rfl⟩
  rw [← hfbe] at X2 hfb HZ2 x0 x1 x2 ⊢
  clear hfbe A2
  have XD := hide (X2.out.below (Below.refl _ _).drew)
  have RD := hide (R2.out.below (Below.refl _ _).drew)
  have OD := hide (O2.out.below (Below.refl _ _).drew)
  have SD := hide (S2.out.below (Below.refl _ _).drew)
  have BD := hide B2.out.drew
  have hfbl : fb < W2.drew.heap.size := HZ2.out
  clear X2 R2 O2 S2 B2 HZ2
  go_region_law ((go_simp; go_wp2_with (go_at_call 14; refine (bentLay_e (w.heap.size + 1) zs _ _ SD.out HU.out (by omega) (by omega)).mono ?_; rintro r w3 ⟨es, la, lc, rfl, hgd, hel, hes, hge, s3, k3⟩; have X3 := hide (XD.out.kept k3 (by omega)); have R3 := hide (RD.out.kept k3 (by omega)); have O3 := hide (OD.out.kept k3 (fun b h1 e => by omega)); have G3 := hide hge; have E3 := hide (And.intro hgd hes); have B3 := hide (BD.out.trans (k3.below (B := w.heap.size) BD.out.size (fun k hk e => by omega))); have hz3 := k3.size; clear hge s3 k3 hgd hes; obtain ⟨⟨y0, y1, y2⟩, -, -, -⟩ := X3.out; obtain ⟨⟨m0, m1, m2⟩, k0, k1, k2⟩ := R3.out)))
  all_goals
    go_wp2_with fail
    have hk := Kept.threeF w3 w.heap.size (.slice wa W.length wk) (.slice fa F.length fc) (.slice ca n cc)
    exact bodyPost_ret (v := .tuple #[.agg #[.slice wa W.length wk, .slice fa F.length fc, .slice ca n cc], .slice la es.length lc]) (by simp [results, Tryz.results5, go_sem, m0, m1, m2]) rfl ⟨wa, wk, W, fa, fc, F, ca, cc, n, D, P, la, lc, es, rfl, (O3.out.kept hk (fun b h1 e => by omega)).rd, hfc, HSm.out, E3.out.1, hel, E3.out.2, (G3.out.kept hk (fun b h1 _ e => by omega)).rd, B3.out.trans (hk.below (B := w.heap.size) B3.out.size (fun k hk e => by omega))⟩
end Go.Proofs.YtejfcapocikjmaaGreatDoor

namespace Go.Proofs.YtejfcapocikjmaaGreatDoor
open Go.RowKit Go.Maps
set_option linter.unusedVariables false

theorem askW_grow {F K : List Int} : ∀ (ds : List Int) (W : List Wn), ∃ X, (askW F K W ds).1 = W ++ X
  | [], W => ⟨[], by simp [askW]⟩
  | d :: ds, W => by
    rw [askW]
    split
    · exact askW_grow ds W
    · split
      · exact askW_grow ds W
      · split
        · exact ⟨[], by simp⟩
        · obtain ⟨X, hX⟩ := askW_grow (F := F) (K := K) ds (W ++ [(d, 0)])
          exact ⟨(d, 0) :: X, by rw [hX]; simp⟩
theorem askW_known {F K : List Int} : ∀ (ds : List Int) (W : List Wn), (askW F K W ds).2 = true → ∀ d ∈ ds, d ∈ F ∨ d ∈ K ∨ d ∈ (askW F K W ds).1.map Prod.fst
  | [], W, _, d, hd => by simp at hd
  | c :: ds, W, h, d, hd => by
    rw [askW] at h ⊢
    by_cases h1 : c ∈ F
    · rw [if_pos h1] at h ⊢
      rcases List.mem_cons.1 hd with rfl | hd
      · exact .inl h1
      · exact askW_known ds W h d hd
    · rw [if_neg h1] at h ⊢
      by_cases h2 : c ∈ K ∨ c ∈ W.map Prod.fst
      · rw [if_pos h2] at h ⊢
        rcases List.mem_cons.1 hd with rfl | hd
        · rcases h2 with h2 | h2
          · exact .inr (.inl h2)
          · obtain ⟨X, hX⟩ := askW_grow (F := F) (K := K) ds W
            refine .inr (.inr ?_)
            rw [hX, List.map_append]
            exact List.mem_append_left _ h2
        · exact askW_known ds W h d hd
      · rw [if_neg h2] at h ⊢
        by_cases h3 : 12 ≤ W.length
        · rw [if_pos h3] at h
          cases h
        · rw [if_neg h3] at h ⊢
          rcases List.mem_cons.1 hd with rfl | hd
          · obtain ⟨X, hX⟩ := askW_grow (F := F) (K := K) ds (W ++ [(d, 0)])
            refine .inr (.inr ?_)
            rw [hX]
            simp
          · exact askW_known ds _ h d hd
theorem askW_still {F K : List Int} {W : List Wn} : ∀ (ds : List Int), (∀ d ∈ ds, d ∈ F ∨ d ∈ K ∨ d ∈ W.map Prod.fst) → askW F K W ds = (W, true)
  | [], _ => rfl
  | c :: ds, h => by
    rw [askW]
    by_cases h1 : c ∈ F
    · rw [if_pos h1]
      exact askW_still ds (fun d hd => h d (List.mem_cons_of_mem _ hd))
    · rw [if_neg h1, if_pos ((h c List.mem_cons_self).resolve_left h1)]
      exact askW_still ds (fun d hd => h d (List.mem_cons_of_mem _ hd))
theorem askW_again {F K : List Int} {W : List Wn} {ds : List Int} (h : (askW F K W ds).2 = true) : askW F K (askW F K W ds).1 ds = ((askW F K W ds).1, true) := askW_still ds (askW_known ds W h)
theorem askW_count {F K : List Int} : ∀ (ds : List Int) (W : List Wn), (askW F K W ds).1.length ≤ W.length + (ds.filter (fun d => decide (d ∉ K))).length
  | [], W => by simp [askW]
  | d :: ds, W => by
    have hle : (ds.filter (fun d => decide (d ∉ K))).length ≤ ((d :: ds).filter (fun d => decide (d ∉ K))).length := by
      rw [List.filter_cons]
      split
      · simp
      · exact Nat.le_refl _
    rw [askW]
    split
    · exact Nat.le_trans (askW_count ds W) (by omega)
    · split
      · exact Nat.le_trans (askW_count ds W) (by omega)
      · rename_i h2
        split
        · exact Nat.le_add_right _ _
        · have hd : d ∉ K := fun h => h2 (.inl h)
          have := askW_count (F := F) (K := K) ds (W ++ [(d, 0)])
          rw [List.filter_cons, if_pos (by simpa using hd)]
          simp at this ⊢
          omega
end Go.Proofs.YtejfcapocikjmaaGreatDoor

namespace Go.Proofs.YtejfcapocikjmaaGreatDoor
open Go.RowKit Go.Maps
set_option linter.unusedVariables false

theorem mem_onceZ {zs : List Int} {z : Int} (h : z ∈ onceZ zs) : z ∈ zs := by
  suffices ∀ (zs acc : List Int), z ∈ zs.foldl addZ acc → z ∈ acc ∨ z ∈ zs by
    have := this zs [] h
    simpa using this
  intro zs
  induction zs with
  | nil => intro acc h; exact .inl h
  | cons c r ih =>
    intro acc h
    rcases ih _ h with h | h
    · unfold addZ at h
      split at h
      · exact .inl h
      · rcases List.mem_append.1 h with h | h
        · exact .inl h
        · exact .inr (by simp at h; simp [h])
    · exact .inr (List.mem_cons_of_mem _ h)
theorem once_ok {es : List En} (h : layFault es = 0) : ∀ d ∈ onceZ (allCh es), okD d := by
  intro d hd
  obtain ⟨e, he, hc⟩ := List.mem_flatMap.1 (mem_onceZ hd)
  have hz := ((layFault_zero h).2 e he).1
  have hall : e.chunks.all isDig = true := by
    by_cases hx : e.chunks.all isDig = true
    · exact hx
    · exfalso
      unfold entFault at hz
      rw [if_neg hx] at hz
      split at hz
      · split at hz
        · split at hz
          · split at hz
            · omega
            · omega
          · omega
        · omega
      · rename_i hp
        exact hp hz
  have := List.all_eq_true.1 hall d hc
  simpa [isDig, okD] using this
end Go.Proofs.YtejfcapocikjmaaGreatDoor

namespace Go.Proofs.YtejfcapocikjmaaGreatDoor
open Go.RowKit Go.Maps
set_option linter.unusedVariables false

theorem fit_ask {F C : List Int} : ∀ (ds : List Int) (W : List Wn), FitF W F C → (∀ d ∈ ds, okD d) → FitF (askW F C W ds).1 F C
  | [], W, h, _ => h
  | d :: ds, W, h, hd => by
    have ht : ∀ c ∈ ds, okD c := fun c hc => hd c (List.mem_cons_of_mem _ hc)
    rw [askW]
    split
    · exact fit_ask ds W h ht
    · rename_i h1
      split
      · exact fit_ask ds W h ht
      · rename_i h2
        split
        · exact h
        · rename_i h3
          exact fit_ask ds _ (fit_push h (hd d List.mem_cons_self) h1 (fun x => h2 (.inl x)) (fun x => h2 (.inr x)) h3) ht
theorem ask_zero' {W : List Wn} {F : List Int} {D : Nat → Int} {P : Nat → List Int} {n : Nat} {ds : List Int} (h : fetFault W F D P n = 0) (hd : ∀ d ∈ ds, okD d) : fetFault (askW F (keysC D n) W ds).1 F D P n = 0 := by
  obtain ⟨hR, hF⟩ := fet_zero h
  have hl := lists_zero.2 (fit_ask ds W hF hd)
  unfold fetFault at h ⊢
  split at h
  · rename_i h1; exact absurd h h1
  · rename_i h1
    rw [if_neg h1]
    exact hl
end Go.Proofs.YtejfcapocikjmaaGreatDoor

namespace Go.Proofs.YtejfcapocikjmaaGreatDoor
open Go.RowKit Go.Maps
set_option linter.unusedVariables false
theorem all_ch_len {es : List En} (h : ∀ e ∈ es, e.chunks.length ≤ 3) : (allCh es).length ≤ 3 * es.length := by
  induction es with
  | nil => simp [allCh]
  | cons e r ih =>
    have h1 := h e List.mem_cons_self
    have h2 := ih (fun x hx => h x (List.mem_cons_of_mem _ hx))
    simp only [allCh, List.flatMap_cons, List.length_append, List.length_cons] at h2 ⊢
    omega
theorem asks (W : List Wn) (F : List Int) (D : Nat → Int) (P : Nat → List Int) (n : Nat) (es : List En) (hsm : Sm W F P n) (hg : GoodH es) (hel : es.length ≤ 13) (hes : SmallE es) :
    (∃ q : Int, q ≠ 0 ∧
      (∀ wa wk fa fc ca cc la lc u, RdF u wa W fa F ca D P n → F.length ≤ fc → RdE u la es → Calls Tryz.prog 7 #[fetV wa W.length wk fa F.length fc ca n cc, .slice la es.length lc] u (ResF q [] [] D P 0 u)) ∧
      (∀ wa wk fa fc ca cc la lc u a0 a1, Ge u a0 a1 → RdF u wa W fa F ca D P n → RdE u la es → Calls Tryz.prog 6 #[fetV wa W.length wk fa F.length fc ca n cc, .slice la es.length lc] u (ResF q [] [] D P 0 u))) ∨
    (∃ (ds : List Int) (V : List Wn), Nice V F D P n ∧ (∀ d ∈ ds, okD d ∧ (d ∈ F ∨ d ∈ keysC D n ∨ d ∈ V.map Prod.fst)) ∧ ds.length ≤ 39 ∧ V.length ≤ W.length + (ds.filter (fun d => decide (d ∉ keysC D n))).length ∧
      (∀ la lc u, RdE u la es → Calls Tryz.prog 8 #[.slice la es.length lc] u (ResZ 0 ds u)) ∧
      (∀ wa wk fa fc ca cc la lc u, RdF u wa W fa F ca D P n → F.length ≤ fc → RdE u la es → Calls Tryz.prog 7 #[fetV wa W.length wk fa F.length fc ca n cc, .slice la es.length lc] u (ResF 0 V F D P n u)) ∧
      (∀ wa wk fa fc ca cc la lc u a0 a1, Ge u a0 a1 → RdF u wa W fa F ca D P n → RdE u la es → Calls Tryz.prog 6 #[fetV wa W.length wk fa F.length fc ca n cc, .slice la es.length lc] u (ResF 0 V F D P n u)) ∧
      (∀ wa wk fa fc ca cc la lc u a0 a1, Ge u a0 a1 → RdF u wa V fa F ca D P n → RdE u la es → Calls Tryz.prog 6 #[fetV wa V.length wk fa F.length fc ca n cc, .slice la es.length lc] u (ResF 0 V F D P n u))) := by
  have hP := hsm.sp
  have hn : n ≤ 1048576 := by have := hsm.sn; omega
  have hWl : W.length ≤ 1048576 := by have := hsm.sw; omega
  have hFl : F.length ≤ 1048576 := by have := hsm.sf; omega
  have hel2 : es.length ≤ 1048576 := by omega
  by_cases hz : fetFault W F D P n = 0
  · obtain ⟨hR, hfit⟩ := fet_zero hz
    have hPl : ∀ i, i < n → 0 < (P i).length ∧ (P i).length ≤ 1048576 := fun i hi => hR.u8len hi
    by_cases hq : layFault es = 0
    · have hqP : layFaultP es = 0 := right_P.2 (right_E.1 hq)
      have hds : chunksListP es = onceZ (allCh es) := by rw [chunksListP, if_pos hqP]
      have hok := once_ok hq
      have hc3 : ∀ e ∈ es, e.chunks.length ≤ 3 := fun e he => entFault_chunks ((right_E.1 hq).ent e he)
      have hlen : (onceZ (allCh es)).length ≤ 39 := by have := onceZ_le (allCh es); have := all_ch_len hc3; omega
      have hcnt := askW_count (F := F) (K := keysC D n) (onceZ (allCh es)) W
      have hagain := @askW_again F (keysC D n) W (onceZ (allCh es))
      have hkn := askW_known (F := F) (K := keysC D n) (onceZ (allCh es)) W
      have hfa := fit_ask (F := F) (C := keysC D n) (onceZ (allCh es)) W hfit hok
      have hza := ask_zero' (ds := onceZ (allCh es)) hz hok
      have hCI := fun (la : Option Addr) (lc : Nat) (u : World) (hL : RdE u la es) => implChunksIn_any la lc es.length es u hL rfl hel2 hes
      have hlW := askW_len (F := F) (K := keysC D n) (ds := onceZ (allCh es)) hWl
      rw [hds, hqP] at hCI
      cases ha : (askW F (keysC D n) W (onceZ (allCh es))).2 with
      | false => exact .inl ⟨2, by decide, fun wa wk fa fc ca cc la lc u h hfc hL => specAskLayer_go wa wk W fa fc F ca cc n D P la lc es u _ h hL (by omega) (fun e he => by have := hc3 e he; omega) hes hn hP hWl hFl hfc hz hPl hq (by omega) (fun h => by rw [ha] at h; cases h) (fun _ r w' h => h), fun wa wk fa fc ca cc la lc u a0 a1 hG h hL => implAskLayer_many wa wk W fa fc F ca cc n D P la lc es u a0 a1 hG h hL hel2 hes hn hP hWl hFl hz hR hqP (by rw [hds]; omega) (by rw [hds]; exact hok) (by rw [hds]; exact ha)⟩
      | true =>
        refine .inr ⟨onceZ (allCh es), (askW F (keysC D n) W (onceZ (allCh es))).1, ⟨hR, hfa, fun i hi => (hP i hi).1⟩, fun d hd => ⟨hok d hd, hkn ha d hd⟩, hlen, hcnt, hCI, fun wa wk fa fc ca cc la lc u h hfc hL => specAskLayer_go wa wk W fa fc F ca cc n D P la lc es u _ h hL (by omega) (fun e he => by have := hc3 e he; omega) hes hn hP hWl hFl hfc hz hPl hq (by omega) (fun _ r w' h => h) (fun h => by rw [ha] at h; cases h), fun wa wk fa fc ca cc la lc u a0 a1 hG h hL => ?_, fun wa wk fa fc ca cc la lc u a0 a1 hG h hL => ?_⟩
        · have := implAskLayer_ok wa wk W fa fc F ca cc n D P la lc es u a0 a1 hG h hL hel2 hes hn hP hWl hFl hz hR hqP (by rw [hds]; omega) (by rw [hds]; exact hok) (by rw [hds]; exact ha)
          rw [hds] at this
          exact this
        · have hag := hagain ha
          have := implAskLayer_ok wa wk (askW F (keysC D n) W (onceZ (allCh es))).1 fa fc F ca cc n D P la lc es u a0 a1 hG h hL hel2 hes hn hP hlW hFl hza hR hqP (by rw [hds]; omega) (by rw [hds]; exact hok) (by rw [hds, hag])
          rw [hds, hag] at this
          exact this
    · have hqP : layFaultP es = layFault es := hg.good
      exact .inl ⟨layFault es, hq, fun wa wk fa fc ca cc la lc u h hfc hL => specAskLayer_lay wa wk W fa fc F ca cc n D P la lc es u h hL hel2 hes hn hP hWl hFl hfc hz hq, fun wa wk fa fc ca cc la lc u a0 a1 hG h hL => by have := implAskLayer_lay wa wk W fa fc F ca cc n D P la lc es u h hL hel2 hes hn hP hWl hFl hz (by rw [hqP]; exact hq); rw [hqP] at this; exact this⟩
  · exact .inl ⟨fetFault W F D P n, hz, fun wa wk fa fc ca cc la lc u h hfc hL => specAskLayer_bad wa wk W fa fc F ca cc n D P la lc es.length u h hn hP hWl hFl hfc hz, fun wa wk fa fc ca cc la lc u a0 a1 hG h hL => implAskLayer_bad wa wk W fa fc F ca cc n D P la lc es.length u h hn hP hWl hFl hz⟩
end Go.Proofs.YtejfcapocikjmaaGreatDoor

namespace Go.Proofs.YtejfcapocikjmaaGreatDoor
open Go
set_option linter.unusedVariables false

theorem laidMetH_layVars {P : Program} {w0 : World} {laid : List (String × DataW Unit)} (args : Array Value)
    (hf : w0.layFits P (laid.filter fun x => x.2.handleName?.isNone) [] = true)
    (hi : w0.layIfaces P (laid.filter fun x => x.2.handleName?.isNone) (w0.layVars P (laid.filter fun x => x.2.handleName?.isNone)) = true)
    (hh : (laid.filter fun x => x.2.handleName?.isSome).all (handleAtB P ((w0.layVars P (laid.filter fun x => x.2.handleName?.isNone)).forCall (fun _ _ => 0) ⟨#[], args, []⟩).memory) = true) :
    laidMetH P laid ((w0.layVars P (laid.filter fun x => x.2.handleName?.isNone)).forCall (fun _ _ => 0) ⟨#[], args, []⟩).memory := by
  refine laidMetH_of_parts ?_ hh
  generalize (laid.filter fun x => x.2.handleName?.isNone) = l at hf hi
  have e1 : (l.filter fun x => (l.map (·.1)).contains x.1) = l := List.filter_eq_self.2 fun x hx => List.contains_iff_mem.2 (List.mem_map.2 ⟨x, hx, rfl⟩)
  have e2 : (l.filter fun x => !(l.map (·.1)).contains x.1) = [] := List.filter_eq_nil_iff.2 fun x hx => by rw [List.contains_iff_mem.2 (List.mem_map.2 ⟨x, hx, rfl⟩)]; simp
  have h : laidMet P l (w0.layVars P l) := laidMet_layVars (w0 := w0) (l.map (·.1)) [] (by rw [e1]) (by rw [e1]; exact hf) (by rw [e1]; exact hi) (by rw [e2]; exact LaidIn.none)
  exact h.of_heap (by simp [World.memory, World.forCall, Input.heap])
theorem gE : Tryz.prog.globalNamed "errors.errorType" = some 2 := by kernel_rfl
theorem gRt : (Tryz.prog.cutTypes.find? (·.1 == "internal/reflectlite.rtype")).map (·.2) = some 167 := by kernel_rfl
theorem gOne : ((List.range 255).filter fun t => Tryz.prog.rowNamed t [101, 114, 114, 111, 114]) = [51] := by kernel_rfl
theorem gSize : Tryz.prog.types.size = 255 := by kernel_rfl
theorem gStar : "*" ++ "errors.errorString" = "*errors.errorString" := by decide
theorem gRow (u : TypeId) (h : Tryz.prog.typeName? 3 u = some "*errors.errorString") : u = 221 :=
  typeName_ptr_named (nm := "errors.errorString") (by rw [gStar]; kernel_rfl) (by kernel_rfl) (by decide) u (by rw [gStar]; exact h)
theorem gU : Tryz.prog.globalNamed "loop.example/g00299/impl.errUnwanted" = some 1 := by kernel_rfl
theorem gUType : (Tryz.prog.globals[1]?).map (·.type) = some 51 := by kernel_rfl
theorem gN : Tryz.prog.globalNamed "loop.example/g00299/impl.errNoRoom" = some 0 := by kernel_rfl
theorem gNType : (Tryz.prog.globals[0]?).map (·.type) = some 51 := by kernel_rfl
theorem ge_of_laid {W : World} (h : laidMetH Tryz.prog [("errors.errorType", Rows.laid_errors_errorType), ("loop.example/g00299/impl.errNoRoom", Rows.laid_loop_example_g00299_impl_errNoRoom), ("loop.example/g00299/impl.errUnwanted", Rows.laid_loop_example_g00299_impl_errUnwanted)] W) : ∃ a0 a1, Ge W a0 a1 := by
  have h' : laidMet Tryz.prog [("loop.example/g00299/impl.errNoRoom", Rows.laid_loop_example_g00299_impl_errNoRoom), ("loop.example/g00299/impl.errUnwanted", Rows.laid_loop_example_g00299_impl_errUnwanted)] W ∧ handlesMet Tryz.prog [("errors.errorType", Rows.laid_errors_errorType)] W := h
  obtain ⟨name, u, ty, e1, e2, e3, e4, e5⟩ := h'.2 _ (List.mem_singleton.2 rfl)
  have en : name = [101, 114, 114, 111, 114] := (Option.some.inj e1).symm
  subst en
  obtain rfl := Option.some.inj (gRt.symm.trans e2)
  have hm : ty ∈ (List.range 255).filter fun t => Tryz.prog.rowNamed t [101, 114, 114, 111, 114] := List.mem_filter.2 ⟨List.mem_range.2 (by rw [← gSize]; exact e3), e4⟩
  rw [gOne] at hm
  obtain rfl := List.mem_singleton.1 hm
  have hh : typeHandle Tryz.prog 51 = .pointer (some ⟨4, 51, none⟩) := by kernel_rfl
  rw [hh] at e5
  obtain ⟨a0, a1, s0, s1, c0, c1, t0, t1, hv0, hv1, hc0, hs0, hz0, hc1, hs1, hz1, hne, hb0, hb1⟩ := laid_sentinels2 h'.1 gN gNType gU gUType Tryz.underlying51 gRow Tryz.underlying221 Tryz.underlying243 rfl rfl Tryz.underlying9 (by kernel_rfl) (by kernel_rfl)
  refine ⟨a1, a0, ?_, ?_, ?_, fun e => hne e.symm, ⟨c1, t1, hb1⟩, c0, t0, hb0⟩
  · simpa using World.var?_cell gU hv1 0
  · simpa using World.var?_cell gN hv0 0
  · simpa using World.var?_cell gE e5 0
end Go.Proofs.YtejfcapocikjmaaGreatDoor

