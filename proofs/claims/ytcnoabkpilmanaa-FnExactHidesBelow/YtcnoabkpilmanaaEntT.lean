/-
  Contracts of the laws' helpers on lists of entries; a list of entries that came in is read.
-/
import Derived.Test.YtcnoabkpilmanaaEntY
import Derived.Test.YtcnoabkpilmanaaEntP
namespace Go.Proofs.Ytcnoabkpilmanaa
open Go.ChangeShapes Go.WideShapes Go.ChangeAt Go.RowKit
set_option linter.unusedVariables false

/-- How much entries hold. -/
def szE : List En → Nat
  | [] => 0
  | e :: es => e.path.length + e.chunks.length + szE es
theorem szE_append : ∀ (a b : List En), szE (a ++ b) = szE a + szE b
  | [], b => by simp [szE]
  | x :: a, b => by simp only [List.cons_append, szE, szE_append a b]; omega
theorem szE_take {es : List En} {j : Nat} {e : En} (h : es[j]? = some e) : szE (es.take (j + 1)) = szE (es.take j) + e.path.length + e.chunks.length := by
  rw [take_snoc_at h, szE_append]; simp only [szE]; omega
theorem szE_le (es : List En) (j : Nat) : szE (es.take j) ≤ szE es := by
  have := szE_append (es.take j) (es.drop j)
  rw [List.take_append_drop] at this
  omega
theorem szE_mem {es : List En} {e : En} (h : e ∈ es) : e.path.length + e.chunks.length ≤ szE es := by
  induction es with
  | nil => simp at h
  | cons x es ih =>
    simp only [szE]
    rcases List.mem_cons.1 h with rfl | h
    · omega
    · have := ih h; omega
theorem szE_small {es : List En} (h : szE es ≤ 1048576) : SmallE es := fun e he => by have := szE_mem he; omega

set_option maxRecDepth 100000 in
set_option maxHeartbeats 800000 in
theorem szEntryS_fits (a : Option Addr) (c n : Nat) (es : List En) (left : Int) (w : World) (h : RdE w a es) (hn : n = es.length) (h0 : left ≤ 1048576) (hfit : (es.length : Int) + (szE es : Int) ≤ left) :
    Calls Try.prog 4 #[.slice a n c, .int .i64 left] w fun e w' => e = .returned (.int .i64 (left - es.length - szE es)) ∧ Below w.heap.size w w' := by
  subst hn
  have hb : ¬ (left - (es.length : Int)) < 0 := by omega
  have HA := hide h
  clear h
  go_enter Try.func4, Try.ntmps4
  go_wp2_with fail
  go_loopw [1, 5] (fun q i wr => ∃ k : Nat, k ≤ es.length ∧ i = .int .i64 k ∧ q = .int .i64 (left - es.length - szE (es.take k)) ∧ Hid (Below w.heap.size w wr)) (fun _ i _ => es.length - (intOf i).toNat)
  case atStart => exact ⟨0, Nat.zero_le _, rfl, by simp [szE], hide (Below.refl _ _)⟩
  case round =>
    obtain ⟨k, hk, rfl, rfl, HW⟩ := hrel
    by_cases hlt : k < es.length
    · obtain ⟨b, off, e, x, cc, rfl, hb1, he, c0, c1, c2, c3, hr⟩ := (HA.out.below HW.out).at hlt
      have hst := szE_take he
      have hle := szE_le es (k + 1)
      have HST := hide hst
      have hss : ((str e.path).size : Int) = (e.path.length : Int) := by rw [str_size]
      have hb2 : ¬ (left - (es.length : Int) - (szE (es.take k) : Int) - (str e.path).size - (e.chunks.length : Int)) < 0 := by omega
      clear hst hr he
      go_wp2_with fail
      refine (szEntry_fits (str e.path) _ _ _ _ _ _ _ (by omega) (by omega)).mono ?_
      rintro r w1 ⟨rfl, b1⟩
      have HB1 := hide b1
      clear b1
      go_wp2_with fail
      go_roundw
      case rel => exact ⟨k + 1, by omega, by go_num, by rw [HST.out]; go_num, hide (below_next HW.out HB1.out)⟩
      case measure => simp [intOf]; omega
    · have HE := hide (show es.take k = es from List.take_of_length_le (by omega))
      rw [HE.out]
      go_wp2_with fail
      go_ret
      exact ⟨rfl, HW.out⟩

set_option maxRecDepth 100000 in
set_option maxHeartbeats 800000 in
theorem szEntryS_not (a : Option Addr) (c n : Nat) (es : List En) (left : Int) (w : World) (h : RdE w a es) (hn : n = es.length) (h00 : 0 ≤ left) (h0 : left ≤ 1048576) (hm : (es.length : Int) ≤ 9223372036854775807) (hmE : ∀ e ∈ es, (e.path.length : Int) ≤ 9223372036854775807 ∧ (e.chunks.length : Int) ≤ 9223372036854775807) (hfit : left < (es.length : Int) + (szE es : Int)) :
    Calls Try.prog 4 #[.slice a n c, .int .i64 left] w fun e w' => e = .returned (.int .i64 (-1)) ∧ Below w.heap.size w w' := by
  subst hn
  by_cases hsm : left < (es.length : Int)
  · have hb : (left - (es.length : Int)) < 0 := by omega
    clear h
    go_enter Try.func4, Try.ntmps4
    go_wp2_with fail
    go_ret
    exact ⟨rfl, Below.refl _ _⟩
  · have hb : ¬ (left - (es.length : Int)) < 0 := by omega
    have HA := hide h
    have HM := hide hmE
    clear h hmE
    go_enter Try.func4, Try.ntmps4
    go_wp2_with fail
    go_loopw [1, 5] (fun q i wr => ∃ k : Nat, k ≤ es.length ∧ i = .int .i64 k ∧ q = .int .i64 (left - es.length - szE (es.take k)) ∧ (es.length : Int) + (szE (es.take k) : Int) ≤ left ∧ Hid (Below w.heap.size w wr)) (fun _ i _ => es.length - (intOf i).toNat)
    case atStart => exact ⟨0, Nat.zero_le _, rfl, by simp [szE], by simp [szE]; omega, hide (Below.refl _ _)⟩
    case round =>
      obtain ⟨k, hk, rfl, rfl, hft, HW⟩ := hrel
      have hlt : k < es.length := by
        rcases Nat.lt_or_ge k es.length with h1 | h1
        · exact h1
        · rw [List.take_of_length_le h1] at hft
          omega
      obtain ⟨b, off, e, x, cc, rfl, hb1, he, c0, c1, c2, c3, hr⟩ := (HA.out.below HW.out).at hlt
      have hst := szE_take he
      have hmk := HM.out e (List.mem_of_getElem? he)
      have HST := hide hst
      have hss : ((str e.path).size : Int) = (e.path.length : Int) := by rw [str_size]
      clear hst hr he
      by_cases hf : (es.length : Int) + (szE (es.take k) : Int) + (e.path.length : Int) + (e.chunks.length : Int) ≤ left
      · have hb2 : ¬ (left - (es.length : Int) - (szE (es.take k) : Int) - (str e.path).size - (e.chunks.length : Int)) < 0 := by omega
        go_wp2_with fail
        refine (szEntry_fits (str e.path) _ _ _ _ _ _ _ (by omega) (by omega)).mono ?_
        rintro r w1 ⟨rfl, b1⟩
        have HB1 := hide b1
        clear b1
        go_wp2_with fail
        go_roundw
        case rel => exact ⟨k + 1, by omega, by go_num, by rw [HST.out]; go_num, by rw [HST.out]; omega, hide (below_next HW.out HB1.out)⟩
        case measure => simp [intOf]; omega
      · go_wp2_with fail
        refine (szEntry_not (str e.path) _ _ _ _ _ _ _ (by omega) (by omega) (by omega) (by omega) (by omega)).mono ?_
        rintro r w1 ⟨rfl, b1⟩
        have HB1 := hide b1
        clear b1
        go_wp2_with fail
        go_ret
        exact ⟨rfl, below_next HW.out HB1.out⟩

/-- The entry of nothing. -/
def zEn : En := ⟨[], 0, 0, []⟩
theorem rowR_set4 : ∀ (rs : List Rw) (j : Nat) (r : Rw), j < rs.length →
    ((((rowR rs).set (j * 4) (.string (str r.e.path))).set (j * 4 + 1) (.int .i64 r.e.kind)).set (j * 4 + 2) (.int .i64 r.e.size)).set (j * 4 + 3) (.slice r.a r.e.chunks.length r.c) = rowR (rs.set j r)
  | [], j, r, h => by simp at h
  | x :: rs, 0, r, h => by simp [rowR, cellsR]
  | x :: rs, j + 1, r, h => by
    have ih := rowR_set4 rs j r (by simpa using h)
    have e1 : rowR (x :: rs) = cellsR x ++ rowR rs := rfl
    have e2 : rowR ((x :: rs).set (j + 1) r) = cellsR x ++ rowR (rs.set j r) := rfl
    have hx : (cellsR x).length = 4 := rfl
    rw [e1, e2, ← ih, List.set_append_right _ _ (by omega), List.set_append_right _ _ (by omega), List.set_append_right _ _ (by omega), List.set_append_right _ _ (by omega), hx]
    rw [show (j + 1) * 4 - 4 = j * 4 by omega, show (j + 1) * 4 + 1 - 4 = j * 4 + 1 by omega, show (j + 1) * 4 + 2 - 4 = j * 4 + 2 by omega, show (j + 1) * 4 + 3 - 4 = j * 4 + 3 by omega]

/-- An entry is stored whole into place j, its chunks in new memory. -/
theorem GE.store {B : Nat} {w w1 : World} {G n c : Nat} {es : List En} {j : Nat} {e : En} {a : Option Addr} {cc : Nat} (h : GE B w.heap.size w (.slice (some ⟨G, 0, none⟩) n c) es) (hn : n = es.length) (hj : j < es.length) (hB : B ≤ w.heap.size) (hbel : Below w.heap.size w w1)
    (hown : w1.ownsRow w.heap.size 2 1 (.slice a e.chunks.length cc) e.chunks.length (e.chunks.map (Value.int .i64))) :
    GE B w1.heap.size ((((w1.setCell ⟨G, j * 4, none⟩ (.string (str e.path))).setCell ⟨G, j * 4 + 1, none⟩ (.int .i64 e.kind)).setCell ⟨G, j * 4 + 2, none⟩ (.int .i64 e.size)).setCell ⟨G, j * 4 + 3, none⟩ (.slice a e.chunks.length cc)) (.slice (some ⟨G, 0, none⟩) n c) (es.set j e) := by
  subst hn
  obtain ⟨rs, hrs, h1, h2, h3, h4, h5⟩ := h
  have hl : rs.length = es.length := by rw [← hrs, List.length_map]
  have k1 := ownsRow_below h1 hbel
  have hsz := hbel.size
  have s1 := ((((k1.stored (j * 4) (.string (str e.path))).1.stored (j * 4 + 1) (.int .i64 e.kind)).1.stored (j * 4 + 2) (.int .i64 e.size)).1.stored (j * 4 + 3) (.slice a e.chunks.length cc)).1
  rw [rowR_set4 rs j ⟨e, a, cc⟩ (by omega)] at s1
  have hkp : Kept (fun b => b = G) w1 ((((w1.setCell ⟨G, j * 4, none⟩ (.string (str e.path))).setCell ⟨G, j * 4 + 1, none⟩ (.int .i64 e.kind)).setCell ⟨G, j * 4 + 2, none⟩ (.int .i64 e.size)).setCell ⟨G, j * 4 + 3, none⟩ (.slice a e.chunks.length cc)) :=
    Kept.setCell (S := fun b => b = G) (p := ⟨G, j * 4 + 3, none⟩) (Kept.setCell (S := fun b => b = G) (p := ⟨G, j * 4 + 2, none⟩) (Kept.two _ _ _ _ _ _) (fun _ => rfl) _) (fun _ => rfl) _
  have hold : ∀ r ∈ rs, ∀ g, r.a.map Addr.block = some g → g < w.heap.size := fun r hr g hg => ((h2 r hr).lt g (block_own hg)).2
  have hnew : ∀ g, a.map Addr.block = some g → w.heap.size ≤ g ∧ g < w1.heap.size := fun g hg => hown.lt g (block_own hg)
  refine ⟨rs.set j ⟨e, a, cc⟩, by rw [List.map_set, hrs], by rw [List.length_set]; exact s1, ?_, ?_, ?_, fun b hb => by have := h5 b hb; omega⟩
  · intro r0 hr0
    rcases List.mem_or_eq_of_mem_set hr0 with hr | rfl
    · have q2 := ownsRow_below (h2 r0 hr) hbel
      exact ownsRow_kept q2 hkp (fun b hb hS => ownsRow_apart k1 q2 (by decide) (by subst hS; rfl) hb)
    · exact ownsRow_kept (ownsRow_mono hown hB) hkp (fun b hb hS => ownsRow_apart k1 hown (by decide) (by subst hS; rfl) hb)
  · rw [List.pairwise_iff_getElem]
    intro i i' hi hi' hlt g hg hg'
    rw [List.length_set] at hi hi'
    rw [List.getElem_set] at hg hg'
    by_cases e1 : j = i
    · rw [if_pos e1] at hg
      rw [if_neg (by omega)] at hg'
      have := hold _ (List.getElem_mem hi') g hg'
      have := hnew g hg
      omega
    · rw [if_neg e1] at hg
      by_cases e2 : j = i'
      · rw [if_pos e2] at hg'
        have := hold _ (List.getElem_mem hi) g hg
        have := hnew g hg'
        omega
      · rw [if_neg e2] at hg'
        exact List.pairwise_iff_getElem.1 h3 i i' hi hi' hlt g hg hg'
  · intro r0 hr0 g hg
    rcases List.mem_or_eq_of_mem_set hr0 with hr | rfl
    · have := hold r0 hr g hg; omega
    · exact (hnew g hg).2
theorem zeros_row (n : Nat) : (madeCells (Value.agg #[.string ⟨#[]⟩, .int .i64 0, .int .i64 0, .slice none 0 0]).cells (n * 4)).toList = rowR (List.replicate n ⟨zEn, none, 0⟩) := by
  have hl := rowR_length (List.replicate n ⟨zEn, none, 0⟩)
  rw [List.length_replicate] at hl
  apply List.ext_getElem?
  intro p
  by_cases hp : p < n * 4
  · have e : p = p / 4 * 4 + p % 4 := by omega
    have h1 : p / 4 < n := by omega
    have h2 : p % 4 < 4 := by omega
    rw [e, rowR_get _ (p / 4) (p % 4) ⟨zEn, none, 0⟩ (by simp [h1]) h2, ← e]
    have hm : p % 4 = 0 ∨ p % 4 = 1 ∨ p % 4 = 2 ∨ p % 4 = 3 := by omega
    rcases hm with hm | hm | hm | hm <;> simp [madeCells, hp, hm, cellsR, zEn, Value.cells, str]
  · rw [List.getElem?_eq_none (by simp [madeCells]; omega), List.getElem?_eq_none (by omega)]
theorem GE.zeros {B n T : Nat} {w : World} {v : Value} (h : w.ownsRow B 36 4 v n (madeCells (Value.agg #[.string ⟨#[]⟩, .int .i64 0, .int .i64 0, .slice none 0 0]).cells (n * 4)).toList) (hT : ∀ b, v.ownBlock = some b → b < T) : GE B T w v (List.replicate n zEn) := by
  refine ⟨List.replicate n ⟨zEn, none, 0⟩, by simp, by rw [List.length_replicate, ← zeros_row]; exact h, fun r hr => ?_, ?_, fun r hr g hg => ?_, hT⟩
  · rw [(List.mem_replicate.1 hr).2]; exact World.ownsRow_nil _ _ _ _
  · rw [List.pairwise_iff_getElem]
    intro i i' hi hi' hlt g hg
    simp at hg
  · rw [(List.mem_replicate.1 hr).2] at hg
    simp at hg

set_option maxRecDepth 100000 in
set_option maxHeartbeats 1600000 in
theorem toEntryS_any (a : Option Addr) (c n : Nat) (es : List En) (w : World) (h : RdE w a es) (hn : n = es.length) (hl : es.length ≤ 1048576) (hs : SmallE es) :
    Calls Try.prog 6 #[.slice a n c] w fun e w' => ∃ G, e = .returned (.slice (some ⟨G, 0, none⟩) n n) ∧ w.heap.size ≤ G ∧ GE w.heap.size w'.heap.size w' (.slice (some ⟨G, 0, none⟩) n n) es ∧ Below w.heap.size w w' := by
  subst hn
  obtain ⟨i1, ki, kz0, kz1, kz2⟩ := info_parts Try.infoEn
  have HA := hide h
  have HS := hide hs
  clear h hs
  have hby : i1.bytes * es.length ≤ 281474976710656 := by rw [kz2]; omega
  have hml : es.length ≤ maxLen := by unfold maxLen; omega
  go_enter Try.func6, Try.ntmps6
  go_wp2_with (at_make; refine wpList_make_full _ rfl (.tmp 6) (.tmp 6) 25 rfl w.heap.size 36 i1 (.agg #[.string ⟨#[]⟩, .int .i64 0, .int .i64 0, .slice none 0 0]) 4 Try.underlying25 ki kz0 kz1 .i64 .i64 _ _ es.length rfl rfl rfl rfl hby hml (Nat.le_refl _) ?_; intro w1 ho1 hg1; have HO1 := hide ho1; have HG1 := hide hg1; clear ho1 hg1)
  have B1 : Hid (Below w.heap.size w w1) := (Below.refl _ _).grown HG1.out (Nat.le_refl _) (fun k hk => by simp at hk)
  have G1 : Hid (GE w.heap.size w1.heap.size w1 (.slice (some ⟨w.heap.size, 0, none⟩) es.length es.length) (List.replicate es.length zEn)) := hide (GE.zeros HO1.out (fun b hb => (HO1.out.lt b hb).2))
  clear HO1 HG1
  go_loopw [4] (fun i wr => ∃ k : Nat, k ≤ es.length ∧ i = .int .i64 k ∧ Hid (GE w.heap.size wr.heap.size wr (.slice (some ⟨w.heap.size, 0, none⟩) es.length es.length) (es.take k ++ List.replicate (es.length - k) zEn)) ∧ Hid (Below w.heap.size w wr)) (fun i _ => es.length - (intOf i).toNat)
  case atStart => exact ⟨0, Nat.zero_le _, rfl, hide (by simpa using G1.out), B1⟩
  case round =>
    obtain ⟨k, hk, rfl, HG, HW⟩ := hrel
    clear G1 B1
    have hsz := HW.out.size
    by_cases hlt : k < es.length
    · obtain ⟨b, off, e, x, cc, rfl, hb1, he, c0, c1, c2, c3, hr⟩ := (HA.out.below HW.out).at hlt
      have hsm := HS.out e (List.mem_of_getElem? he)
      have HX := hide he
      have HRc := hide hr
      clear he hr
      have hlen : (es.take k ++ List.replicate (es.length - k) zEn).length = es.length := by simp; omega
      have HSTEP := hide (show (es.take k ++ List.replicate (es.length - k) zEn).set k e = es.take (k + 1) ++ List.replicate (es.length - (k + 1)) zEn from by
        rw [List.set_append_right _ _ (by rw [List.length_take]; omega), List.length_take, show k - min k es.length = 0 by omega, take_snoc_at HX.out, show es.length - k = (es.length - (k + 1)) + 1 by omega, List.replicate_succ]
        simp)
      have HZ := hide (show (es.take k ++ List.replicate (es.length - k) zEn)[k]? = some zEn from by
        rw [List.getElem?_append_right (by rw [List.length_take]; omega), List.length_take]
        rw [List.getElem?_replicate]
        rw [if_pos (by omega)])
      have HLE := hide hlen
      clear hlen
      generalize es.take k ++ List.replicate (es.length - k) zEn = L at HG HSTEP HZ HLE
      go_wp2_with fail
      refine (toEntry_any _ _ _ _ _ e.chunks _ HRc.out hsm.2).mono ?_
      rintro r w2 ⟨g, rfl, hg, ho, hb⟩
      obtain ⟨G, x', y', hGe, hg1, hg2, m0, m1, m2, m3, mf, -⟩ := (HG.out.below hb).open HZ.out
      simp only [Option.some.injEq, Addr.mk.injEq, and_true] at hGe
      subst hGe
      have mf0 := mf (k * 4)
      have mf1 := mf (k * 4 + 1)
      have mf2 := mf (k * 4 + 2)
      have mf3 := mf (k * 4 + 3)
      have HO2 := hide ho
      have HB2 := hide hb
      clear ho hb mf
      go_wp2_with fail
      go_roundw
      case rel =>
        refine ⟨k + 1, by omega, by go_num, hide ?_, hide ((((HW.out.trans (HB2.out.mono hsz)).setCell (p := ⟨w.heap.size, k * 4, none⟩) (Nat.le_refl _) _).setCell (p := ⟨w.heap.size, k * 4 + 1, none⟩) (Nat.le_refl _) _).setCell (p := ⟨w.heap.size, k * 4 + 2, none⟩) (Nat.le_refl _) _ |>.setCell (p := ⟨w.heap.size, k * 4 + 3, none⟩) (Nat.le_refl _) _)⟩
        have := GE.store HG.out (e := e) HLE.out.symm (show k < L.length by rw [HLE.out]; exact hlt) hsz HB2.out HO2.out
        rw [HSTEP.out] at this
        simpa [World.setCell] using this
      case measure => simp [intOf]; omega
    · have hke : k = es.length := by omega
      have HE := hide (show es.take k ++ List.replicate (es.length - k) zEn = es from by rw [List.take_of_length_le (by omega), show es.length - k = 0 by omega]; simp)
      clear hke
      rw [HE.out] at HG
      go_wp2_with fail
      go_ret
      exact ⟨_, rfl, Nat.le_refl _, HG.out, HW.out⟩

theorem entries_of_trod {H : Type} {enc : TypeId × Value → H} {W : World} {a : Option Addr} {n c fuel : Nat} {x : DataW H × List MemPlace}
    (h : DataW.trod enc Try.prog W 0 (fun _ => true) true fuel 22 [.slice a n c] = some x) :
    ∃ es : List En, es.length = n ∧ RdE W a es ∧ es.length ≤ maxLen ∧ ∀ e ∈ es, e.path.length ≤ maxLen ∧ e.chunks.length ≤ maxLen := by
  rcases Deep.open_slice Try.underlying22 h with ⟨hcs, _⟩ | ⟨ad, l, cp, m, fu, D, Pl, hcs, _, hl, hm, hmm, _, hx⟩
  · simp at hcs
    obtain ⟨rfl, rfl, rfl⟩ := hcs
    exact ⟨[], rfl, fun h => absurd rfl h, Nat.zero_le _, fun e he => by simp at he⟩
  · simp at hcs
    obtain ⟨rfl, rfl, rfl⟩ := hcs
    simp only [if_true] at hmm
    subst hmm
    have ce : Try.prog.cellsOf 32 = 4 := by kernel_rfl
    have each : ∀ i, i < n → ∃ q : En × Option Addr × Nat, (W.cell? (ad.add (i * 4)) = some (.string (str q.1.path)) ∧ W.cell? (ad.add (i * 4 + 1)) = some (.int .i64 q.1.kind) ∧ W.cell? (ad.add (i * 4 + 2)) = some (.int .i64 q.1.size) ∧ W.cell? (ad.add (i * 4 + 3)) = some (.slice q.2.1 q.1.chunks.length q.2.2)) ∧ InE W q.1 q.2.1 := by
      intro i hi
      obtain ⟨cs', h1, h2⟩ := hx i (by omega)
      rw [ce] at h1
      obtain ⟨e, a1, c1, rfl, hin⟩ := entry_of_trod h2
      obtain ⟨_, hlen, hcell⟩ := World.cells?_some h1
      have e0 := hcell 0 (by omega)
      have e1 := hcell 1 (by omega)
      have e2 := hcell 2 (by omega)
      have e3 := hcell 3 (by omega)
      rw [Deep.add_add] at e0 e1 e2 e3
      exact ⟨(e, a1, c1), ⟨by simpa using e0, by simpa using e1, by simpa using e2, by simpa using e3⟩, hin⟩
    haveI : Inhabited (En × Option Addr × Nat) := ⟨(zEn, none, 0)⟩
    obtain ⟨q, hq⟩ := Deep.choose_lt each
    refine ⟨(List.range n).map fun i => (q i).1, by simp, ?_, by simp; omega, ?_⟩
    · intro hz
      have hn : 0 < n := by
        rcases Nat.eq_zero_or_pos n with h0 | h0
        · subst h0; exact absurd rfl hz
        · exact h0
      obtain ⟨b, off, spot⟩ := ad
      have hspot : spot = none := by simpa [Addr.add] using World.cell?_spot (hq 0 hn).1.1
      subst hspot
      refine ⟨b, off, fun i => (q i).2.1, fun i => (q i).2.2, rfl, World.block_lt_of_cell? W _ (by simpa [Addr.add] using (hq 0 hn).1.1), fun i e he => ?_⟩
      have hi : i < n := by have := (List.getElem?_eq_some_iff.1 he).1; simpa using this
      have hee : (q i).1 = e := by simpa [hi] using he
      subst hee
      obtain ⟨⟨c0, c1, c2, c3⟩, hin⟩ := hq i hi
      rw [add_addr] at c0 c1 c2 c3
      exact ⟨c0, by rw [Nat.add_assoc]; exact c1, by rw [Nat.add_assoc]; exact c2, by rw [Nat.add_assoc]; exact c3, hin.rd⟩
    · intro e he
      obtain ⟨i, hi, rfl⟩ := List.mem_map.1 he
      have hin := (hq i (List.mem_range.1 hi)).2
      exact ⟨hin.pl, hin.cl⟩

end Go.Proofs.Ytcnoabkpilmanaa
