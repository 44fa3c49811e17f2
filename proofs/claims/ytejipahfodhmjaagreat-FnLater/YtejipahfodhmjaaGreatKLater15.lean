/-
  Texts put together: DrawCh LazH AppL.
-/
import Derived.Test.YtejipahfodhmjaaGreatKLater13
import Derived.Test.YtejipahfodhmjaaGreatKLater2
import Derived.Test.YtejipahfodhmjaaGreatKLater14
import Derived.Test.YtejipahfodhmjaaGreatKLater1
import Derived.Maps.AppendAt
namespace Go.Proofs.YtejipahfodhmjaaGreat
open Go.RowKit Go.Maps
set_option linter.unusedVariables false

def GA (B : Nat) (w : World) (v : Value) (D : Nat → Int) (P : Nat → List Int) (n : Nat) : Prop :=
  ∃ (A : Nat → Option Addr) (C : Nat → Nat), w.ownsRow B 108 2 v n (flat n (chCells D P A C)) ∧ ∀ i, i < n → w.ownsRow B 5 1 (.slice (A i) (P i).length (C i)) (P i).length ((P i).map (Value.int .u8))
theorem GC.ga {B T : Nat} {w : World} {v : Value} {D : Nat → Int} {P : Nat → List Int} {n : Nat} (h : GC B T w v D P n) : GA B w v D P n := by
  obtain ⟨A, C, h1, h2, _⟩ := h
  exact ⟨A, C, h1, h2⟩
theorem GA.kept {S : Nat → Prop} {B : Nat} {w w' : World} {v : Value} {D : Nat → Int} {P : Nat → List Int} {n : Nat} (h : GA B w v D P n) (hk : Kept S w w') (hS : ∀ b, B ≤ b → ¬ S b) : GA B w' v D P n := by
  obtain ⟨A, C, h1, h2⟩ := h
  exact ⟨A, C, ownsRow_kept h1 hk (fun b hb => hS b (h1.lt b hb).1), fun i hi => ownsRow_kept (h2 i hi) hk (fun b hb => hS b ((h2 i hi).lt b hb).1)⟩
theorem GA.below {B : Nat} {w w' : World} {v : Value} {D : Nat → Int} {P : Nat → List Int} {n : Nat} (h : GA B w v D P n) (hk : Below w.heap.size w w') : GA B w' v D P n :=
  h.kept (S := fun _ => False) (Kept.of_below hk) (fun _ _ => id)
theorem GA.mono {B B' : Nat} {w : World} {v : Value} {D : Nat → Int} {P : Nat → List Int} {n : Nat} (h : GA B w v D P n) (hB : B' ≤ B) : GA B' w v D P n := by
  obtain ⟨A, C, h1, h2⟩ := h
  exact ⟨A, C, ownsRow_mono h1 hB, fun i hi => ownsRow_mono (h2 i hi) hB⟩
theorem GA.rd {B : Nat} {w : World} {a : Option Addr} {c : Nat} {D : Nat → Int} {P : Nat → List Int} {n : Nat} (h : GA B w (.slice a n c) D P n) : RdC w a D P n := by
  obtain ⟨A, C, h1, h2⟩ := h
  exact RdC.of_rows h1 (fun i hi => reads_owned (h2 i hi) rfl)
theorem GA.digest {B g c n j : Nat} {w : World} {D : Nat → Int} {P : Nat → List Int} (h : GA B w (.slice (some ⟨g, 0, none⟩) n c) D P n) (hj : j < n) (d : Int) : GA B (w.setCell ⟨g, j * 2, none⟩ (.int .i64 d)) (.slice (some ⟨g, 0, none⟩) n c) (upd D j d) P n := by
  obtain ⟨A, C, h1, h2⟩ := h
  have s1 := (h1.stored (j * 2) (.int .i64 d)).1
  have e := flat_set (n := n) (k := 2) (F := chCells D P A C) (fun i _ => rfl) j 0 hj (by decide) (.int .i64 d)
  rw [Nat.add_zero] at e
  rw [e] at s1
  have hk1 : Kept (fun b => b = g) w (w.setCell ⟨g, j * 2, none⟩ (.int .i64 d)) := Kept.setCell (S := fun b => b = g) (p := ⟨g, j * 2, none⟩) (Kept.refl _ _) (fun _ => rfl) _
  refine ⟨A, C, ?_, fun i hi => ownsRow_kept (h2 i hi) hk1 (fun b hb e => ownsRow_apart h1 (h2 i hi) (by decide) (by subst e; rfl) hb)⟩
  rw [flat_congr (G := fun t => if t = j then (chCells D P A C t).set 0 (.int .i64 d) else chCells D P A C t) (fun i hi => ?_)]
  · exact s1
  · by_cases e : i = j
    · subst e; simp [chCells, upd_same]
    · simp [chCells, upd_other _ _ _ e, e]
theorem GA.bytes {B g c n j : Nat} {w : World} {D : Nat → Int} {P : Nat → List Int} {x : Option Addr} {y : Nat} {zs : List Int} (h : GA B w (.slice (some ⟨g, 0, none⟩) n c) D P n) (hj : j < n) (hr : w.ownsRow B 5 1 (.slice x zs.length y) zs.length (zs.map (Value.int .u8))) : GA B (w.setCell ⟨g, j * 2 + 1, none⟩ (.slice x zs.length y)) (.slice (some ⟨g, 0, none⟩) n c) D (upd P j zs) n := by
  obtain ⟨A, C, h1, h2⟩ := h
  have s1 := (h1.stored (j * 2 + 1) (.slice x zs.length y)).1
  have e := flat_set (n := n) (k := 2) (F := chCells D P A C) (fun i _ => rfl) j 1 hj (by decide) (.slice x zs.length y)
  rw [e] at s1
  have hk1 : Kept (fun b => b = g) w (w.setCell ⟨g, j * 2 + 1, none⟩ (.slice x zs.length y)) := Kept.setCell (S := fun b => b = g) (p := ⟨g, j * 2 + 1, none⟩) (Kept.refl _ _) (fun _ => rfl) _
  refine ⟨upd A j x, upd C j y, ?_, fun i hi => ?_⟩
  · rw [flat_congr (G := fun t => if t = j then (chCells D P A C t).set 1 (.slice x zs.length y) else chCells D P A C t) (fun i hi => ?_)]
    · exact s1
    · by_cases e : i = j
      · subst e; simp [chCells, upd_same]
      · simp [chCells, upd_other _ _ _ e, e]
  · by_cases e : i = j
    · subst e
      simp only [upd_same]
      exact ownsRow_kept hr hk1 (fun b hb e => ownsRow_apart h1 hr (by decide) (by subst e; rfl) hb)
    · simp only [upd_other _ _ _ e]
      exact ownsRow_kept (h2 i hi) hk1 (fun b hb e => ownsRow_apart h1 (h2 i hi) (by decide) (by subst e; rfl) hb)

theorem runS_some {s : St} {Z : Nat → List Int} : ∀ k, s.2.2 + k ≤ 40 → ∃ t, runS s Z k = some t ∧ t.2.2 ≤ s.2.2 + k
  | 0, _ => ⟨s, rfl, by omega⟩
  | k + 1, hk => by
    obtain ⟨t, ht, hn⟩ := runS_some (s := s) (Z := Z) k (by omega)
    rw [runS_next ht]
    unfold stepS
    by_cases h1 : hasS t (digest (Z k)) = true
    · exact ⟨t, by rw [if_pos h1], by omega⟩
    · exact ⟨putSC t (Z k), by rw [if_neg h1, if_neg (by omega)], by simp only [putSC]; omega⟩

theorem runS_u8 {s : St} {Z : Nat → List Int} (h : ∀ i, i < s.2.2 → U8 (s.2.1 i)) (hz : ∀ j, U8 (Z j)) : ∀ k t, runS s Z k = some t → ∀ i, i < t.2.2 → U8 (t.2.1 i)
  | 0, t, ht => by simp only [runS, Option.some.injEq] at ht; subst ht; exact h
  | k + 1, t, ht => by
    cases hr : runS s Z k with
    | none => simp [runS, hr] at ht
    | some u =>
      have hu := runS_u8 h hz k u hr
      rw [runS_next hr] at ht
      unfold stepS at ht
      cases hh : hasS u (digest (Z k)) with
      | true => rw [hh, if_pos rfl] at ht; simp only [Option.some.injEq] at ht; subst ht; exact hu
      | false =>
        rw [hh, if_neg (by simp)] at ht
        by_cases hf : 40 ≤ u.2.2
        · rw [if_pos hf] at ht; cases ht
        · rw [if_neg hf] at ht
          simp only [Option.some.injEq] at ht
          subst ht
          intro i hi
          simp only [putSC, ins] at hi ⊢
          split
          · exact hu i (by have := (plc_ok u.1 (digest (Z k)) u.2.2).1; omega)
          · split
            · exact hz k
            · exact hu (i - 1) (by omega)

set_option maxRecDepth 100000 in
set_option maxHeartbeats 800000 in
theorem l1Chance_any (p : Nat) (zs : List Int) (t n : Int) (w : World) (h : Src w p zs t) (hu : U8 zs) (ht0 : 0 ≤ t) (ht1 : t ≤ 1099511627776) (hn0 : 1 ≤ n) (hn1 : n ≤ 2147483648) (hl : zs.length ≤ 1048576) :
    Calls Tryz.prog 74 #[.pointer (some ⟨p, 0, none⟩), .int .i64 n] w fun e w' => ∃ r, e = .returned (.bool r) ∧ Src w' p zs (t + 1) ∧ Kept (fun b => b = p) w w' := by
  have HC := hide (l1Next_any p zs t n w h hu ht0 ht1 hn0 hn1 hl)
  clear h hu
  go_enter Tryz.func74, Tryz.ntmps74
  go_wp2_with fail
  refine HC.out.mono ?_
  rintro e w1 ⟨r, rfl, r0, r1, s1, k1⟩
  have S1 := hide s1
  have K1 := hide k1
  clear s1 k1
  go_wp2_with fail
  go_ret
  exact ⟨_, rfl, S1.out, K1.out⟩

set_option maxRecDepth 100000 in
set_option maxHeartbeats 1600000 in
theorem l2Right_any (p : Nat) (zs : List Int) (t : Int) (w : World) (h : Src w p zs t) (hu : U8 zs) (ht0 : 0 ≤ t) (ht1 : t ≤ 100000) (hl : zs.length ≤ 1048576) :
    Calls Tryz.prog 115 #[.pointer (some ⟨p, 0, none⟩)] w fun e w' => ∃ (g cv : Nat) (s : St) (t' : Int), e = .returned (.slice (some ⟨g, 0, none⟩) s.2.2 cv) ∧ s.2.2 ≤ cv ∧ s.2.2 ≤ 14 ∧ RightC s.1 s.2.1 s.2.2 ∧ (∀ i, i < s.2.2 → U8 (s.2.1 i)) ∧ GC w.heap.size w'.heap.size w' (.slice (some ⟨g, 0, none⟩) s.2.2 cv) s.1 s.2.1 s.2.2 ∧ Src w' p zs t' ∧ 0 ≤ t' ∧ t' ≤ t + 200 ∧ Kept (fun b => b = p) w w' := by
  have hp := h.lt
  have HS := hide h
  have HU := hide hu
  clear h hu
  go_enter Tryz.func115, Tryz.ntmps115
  go_wp2_with fail
  refine (l1Next_any p zs t 8 _ (HS.out.below (below_alloc _ _)) HU.out ht0 (by omega) (by decide) (by decide) hl).mono ?_
  rintro e w1 ⟨r, rfl, r0, r1, s1, k1⟩
  obtain ⟨kk, rfl⟩ := Int.eq_ofNat_of_zero_le r0
  have S1 := hide s1
  have K1 := hide (((Kept.refl (fun b => b = p) w).alloc (.cells #[] 108)).trans k1)
  have O1 := hide (ownsRow_kept (World.ownsRow_made (e := 108) (size := 2) w #[] 0 (Nat.le_refl _) (Nat.zero_le _) rfl) k1 (fun b hb e => by simp [Value.ownBlock] at hb; omega))
  have hs1 := K1.out.size
  clear s1 k1 HS
  go_wp2_with fail
  go_loopw [3, 4] (fun v k wr => ∃ (m : Nat) (s : St) (g cv : Nat) (t' : Int), m ≤ 7 ∧ k = .int .i64 m ∧ v = .slice (some ⟨g, 0, none⟩) s.2.2 cv ∧ s.2.2 ≤ cv ∧ s.2.2 ≤ 2 * (7 - m) ∧ RightC s.1 s.2.1 s.2.2 ∧ (∀ i, i < s.2.2 → U8 (s.2.1 i)) ∧ GC w.heap.size wr.heap.size wr (.slice (some ⟨g, 0, none⟩) s.2.2 cv) s.1 s.2.1 s.2.2 ∧ Src wr p zs t' ∧ 0 ≤ t' ∧ t' ≤ t + 1 + 14 * (7 - m) ∧ Kept (fun b => b = p) w wr) (fun _ k _ => (intOf k).toNat)
  case atStart => exact ⟨kk, (fun _ => 0, fun _ => [], 0), w.heap.size, 0, t + 1, by omega, rfl, rfl, Nat.le_refl _, Nat.zero_le _, ⟨by simp, fun i hi => absurd hi (by simp), fun i hi => absurd hi (by simp), fun i hi => absurd hi (by simp), fun i hi => absurd hi (by simp)⟩, fun i hi => absurd hi (by simp), ⟨fun _ => none, fun _ => 0, O1.out, fun i hi => absurd hi (by simp), fun i i' g hi => absurd hi (by simp), fun i g hi => absurd hi (by simp), fun x hx => (O1.out.lt x hx).2⟩, S1.out, by omega, by omega, K1.out⟩
  case round =>
    obtain ⟨m, ⟨D1, P1, n1⟩, g, cv, t', hm, rfl, rfl, hcv, hn1, hR, hU8, hG, hS, ht'0, ht'1, hK⟩ := hrel
    simp only at hcv hn1 hR hU8 hG
    have HRt := hide hR
    have HU8 := hide hU8
    have HG := hide hG
    have HSr := hide hS
    have HK := hide hK
    have hsz := hK.size
    clear S1 K1 O1 hR hU8 hG hS hK
    by_cases hlt : 0 < m
    · have hm0 : (0 : Int) < (m : Int) := by omega
      go_wp2_with fail
      refine (l1Next_any p zs t' 12 wr HSr.out HU.out ht'0 (by omega) (by decide) (by decide) hl).mono ?_
      rintro e w2 ⟨r, rfl, r0, r1, s2, k2⟩
      obtain ⟨rr, rfl⟩ := Int.eq_ofNat_of_zero_le r0
      have S2 := hide s2
      have hs2 := k2.size
      have G2 := hide ((HG.out.kept k2 (fun b h1 _ e => by omega)).wide hs2)
      have K2 := hide (HK.out.trans k2)
      clear s2 k2 HG HSr HK
      go_wp2_with fail
      have hq : (1 : Int) + (rr : Int) = ((1 + rr : Nat) : Int) := by omega
      rw [hq]
      refine (l1Some_any p (1 + rr) zs _ w2 S2.out HU.out (by omega) (by omega) hl (by omega) S2.out.lt).mono ?_
      rintro e w3 ⟨av, ac, ds, rfl, hds, hU, hown, s3, k3⟩
      have S3 := hide s3
      have hs3 := k3.size
      have G3 := hide ((G2.out.kept k3 (fun b h1 _ e => by omega)).wide hs3)
      have K3 := hide (K2.out.trans k3)
      have R3 := hide (ownsRow_own hown hds.symm).reads
      have hac := ownsRow_cap hown
      have UD := hide hU
      clear s3 k3 hown hU G2 S2 K2
      rw [← hds] at hac ⊢
      have HN1 : Hid ((cut ds).length ≤ 2) := hide (by rw [cut_length]; omega)
      obtain ⟨s4, hrun, hsn⟩ := runS_some (s := (D1, P1, n1)) (Z := piece ds) (cut ds).length (by have := HN1.out; simp only; omega)
      have hb := l2Bytes_any (some ⟨g, 0, none⟩) cv n1 D1 P1 av ac ds w3 G3.out.rd HRt.out R3.out UD.out hac (by omega)
      rw [hrun] at hb
      have HB := hide hb
      have HU4 := hide (runS_u8 (s := (D1, P1, n1)) HU8.out (fun j => UD.out.piece j) _ s4 hrun)
      have hn4 : s4.2.2 ≤ 2 * (7 - (m - 1)) := by have := HN1.out; simp only at hsn; omega
      have hdl : ds.length ≤ 12 := by omega
      clear hb hrun hsn hds hq
      go_wp2_with fail
      refine HB.out.mono ?_
      rintro e w4 ⟨⟨g4, cv4, rfl, hcv4, hR4, hG4⟩, b4⟩
      have C4 := hide (hG4.mono (B' := w.heap.size) (by omega))
      have HR4 := hide hR4
      have S4 := hide (S3.out.below b4)
      have K4 := hide (K3.out.trans (Kept.of_below (S := fun b => b = p) b4))
      clear hG4 hR4 b4 S3 K3 HB G3
      go_wp2_with fail
      go_roundw
      case rel => exact ⟨m - 1, s4, g4, cv4, t' + 1 + ((1 + rr : Nat) : Int), by omega, by go_num, rfl, hcv4, hn4, HR4.out, HU4.out, C4.out, S4.out, by omega, by omega, K4.out⟩
      case measure => simp [intOf]; omega
    · have hm0 : m = 0 := by omega
      subst hm0
      go_wp2
      go_ret
      exact ⟨g, cv, (D1, P1, n1), t', rfl, hcv, by simp only; omega, HRt.out, HU8.out, HG.out, HSr.out, ht'0, by omega, HK.out⟩

theorem kept_of_none {w w' : World} (h : w.grownBy w' none) : Kept (fun _ => False) w w' := ⟨h.os, h.tape, h.output, h.size, fun k hk _ => h.block k hk (by simp)⟩
theorem below_of_kept_false {w w' : World} (h : Kept (fun _ => False) w w') : Below w.heap.size w w' := h.below (Nat.le_refl _) (fun _ _ => id)
theorem cells3 (w : World) (a b c : Int) (t : TypeId) : ∀ i, i < 3 → (w.alloc (.cells #[.int .i64 a, .int .i64 b, .int .i64 c] t)).cell? ⟨w.heap.size, i, none⟩ = some (.int .i64 ([a, b, c].getD i 0)) := by
  intro i hi
  match i, hi with
  | 0, _ | 1, _ | 2, _ => simp
theorem zeros41 : (madeCells (Value.agg #[.int .i64 0, .slice none 0 0]).cells (41 * 2)).toList = flat 41 (chCells (fun _ => 0) (fun _ => []) (fun _ => none) (fun _ => 0)) := by
  show (madeCells #[Value.int .i64 0, .slice none 0 0] (41 * 2)).toList = _
  have hl := flat_length (n := 41) (k := 2) (F := chCells (fun _ => 0) (fun _ => []) (fun _ => none) (fun _ => 0)) (fun i _ => rfl)
  apply List.ext_getElem?
  intro p
  by_cases hp : p < 41 * 2
  · have e : p = p / 2 * 2 + p % 2 := by omega
    have h1 : p / 2 < 41 := by omega
    have h2 : p % 2 < 2 := by omega
    rw [e, flat_get (k := 2) (fun i _ => rfl) _ _ h1 h2]
    rw [← e]
    have hm : p % 2 = 0 ∨ p % 2 = 1 := by omega
    rcases hm with hm | hm <;> simp [madeCells, hp, hm, chCells]
  · rw [List.getElem?_eq_none (by simp [madeCells]; omega), List.getElem?_eq_none (by omega)]
theorem GA.zeros {B : Nat} {w : World} {v : Value} (h : w.ownsRow B 108 2 v 41 (madeCells (Value.agg #[.int .i64 0, .slice none 0 0]).cells (41 * 2)).toList) : GA B w v (fun _ => 0) (fun _ => []) 41 :=
  ⟨fun _ => none, fun _ => 0, by rw [← zeros41]; exact h, fun i _ => World.ownsRow_nil _ _ _ _⟩
theorem GA.again {B n : Nat} {w1 w2 : World} {v v' : Value} {D : Nat → Int} {P : Nat → List Int} {A : Nat → Option Addr} {C : Nat → Nat} (h1 : w1.ownsRow B 108 2 v n (flat n (chCells D P A C))) (hn : 0 < n)
    (h2 : ∀ i, i < n → w1.ownsRow B 5 1 (.slice (A i) (P i).length (C i)) (P i).length ((P i).map (Value.int .u8)))
    (hv' : w2.ownsRow B 108 2 v' (n + 1) (flat n (chCells D P A C) ++ [.int .i64 (D 0), .slice (A 0) (P 0).length (C 0)])) (hk : Kept (fun b => v.ownBlock = some b) w1 w2) : GA B w2 v' (upd D n (D 0)) (upd P n (P 0)) (n + 1) := by
  refine ⟨upd A n (A 0), upd C n (C 0), ?_, fun i hi => ?_⟩
  · rw [flat_succ]
    have e : flat n (chCells (upd D n (D 0)) (upd P n (P 0)) (upd A n (A 0)) (upd C n (C 0))) = flat n (chCells D P A C) := flat_congr (fun i hi => by
      have : i ≠ n := by omega
      simp [chCells, upd_other _ _ _ this])
    rw [e]
    simpa [chCells, upd_same] using hv'
  · have hkeep : ∀ j, j < n → w2.ownsRow B 5 1 (.slice (A j) (P j).length (C j)) (P j).length ((P j).map (Value.int .u8)) := fun j hj => ownsRow_kept (h2 j hj) hk (fun b hb hS => ownsRow_apart h1 (h2 j hj) (by decide) hS hb)
    by_cases e : i = n
    · subst e; simp only [upd_same]; exact hkeep 0 hn
    · simp only [upd_other _ _ _ e]; exact hkeep i (by omega)

set_option maxRecDepth 100000 in
set_option maxHeartbeats 3200000 in
theorem l2Bent_any (p : Nat) (zs : List Int) (t : Int) (w : World) (h : Src w p zs t) (hu : U8 zs) (ht0 : 0 ≤ t) (ht1 : t ≤ 100000) (hl : zs.length ≤ 1048576) :
    Calls Tryz.prog 75 #[.pointer (some ⟨p, 0, none⟩)] w fun e w' => ∃ (g cv n : Nat) (D : Nat → Int) (P : Nat → List Int) (t' : Int), e = .returned (.slice (some ⟨g, 0, none⟩) n cv) ∧ n ≤ cv ∧ n ≤ 41 ∧ (∀ i, i < n → U8 (P i) ∧ (P i).length ≤ 9) ∧ GA w.heap.size w' (.slice (some ⟨g, 0, none⟩) n cv) D P n ∧ Src w' p zs t' ∧ 0 ≤ t' ∧ t' ≤ t + 400 ∧ Kept (fun b => b = p) w w' := by
  obtain ⟨i1, ki, kz0, kz1, kz2⟩ := info_parts Tryz.infoCh
  have hby41 : i1.bytes * 41 ≤ 281474976710656 := by rw [kz2]; decide
  have hml41 : 41 ≤ maxLen := by decide
  have hp := h.lt
  have HU := hide hu
  have HC := hide (l2Right_any p zs t w h hu ht0 ht1 hl)
  clear h hu
  go_enter Tryz.func75, Tryz.ntmps75
  go_wp2_with fail
  refine HC.out.mono ?_
  rintro e w1 ⟨g, cv, ⟨D, P, n⟩, t1, rfl, hcv8, hn14, hR, hU8, hG, hS, ht10, ht11, hK⟩
  simp only at hcv8 hn14 hR hU8 hG
  have L8 : Hid (∀ i, i < n → U8 (P i) ∧ (P i).length ≤ 9) := fun i hi => ⟨hU8 i hi, by have := (hR.len i hi).2; omega⟩
  have K8 := hide hK
  have hs1 := hK.size
  by_cases hn0 : 0 < n
  · have hn0' : (0 : Int) < (n : Int) := by omega
    obtain ⟨hg1, hg2⟩ : w.heap.size ≤ g ∧ g < w1.heap.size := by obtain ⟨A, C, h1, _⟩ := hG; exact h1.lt g rfl
    have G1 := hide hG.ga
    have S1 := hide hS
    clear hS hG hR hU8 hK HC
    go_wp2_with fail
    refine (l1Next_any p zs t1 14 w1 S1.out HU.out ht10 (by omega) (by decide) (by decide) hl).mono ?_
    rintro e w2 ⟨r, rfl, r0, r1, s2, k2⟩
    have hs2 := k2.size
    have G2 := hide (G1.out.kept k2 (fun b h1 e => by omega))
    have S2 := hide s2
    have K2 := hide (K8.out.trans k2)
    clear s2 k2 G1 S1 K8
    by_cases h0 : r = 0
    · subst h0
      go_wp2_with fail
      refine (l1Pick_any p w2.heap.size 3 3 [-1, 5, 4294967296] zs _ _ (S2.out.below (below_alloc _ _)) HU.out (by omega) (by omega) hl (by decide) (by decide) rfl (by omega) (by simp) (cells3 _ _ _ _ _)).mono ?_
      rintro e w3 ⟨v, hv, rfl, s3, k3⟩
      have hs3 := k3.size
      have G3 := hide ((G2.out.below (below_alloc _ (.cells #[.int .i64 (-1), .int .i64 5, .int .i64 4294967296] 2))).kept k3 (fun b h1 e => by omega))
      have S3 := hide s3
      have K3 := hide ((K2.out.alloc (.cells #[.int .i64 (-1), .int .i64 5, .int .i64 4294967296] 2)).trans k3)
      clear s3 k3 G2 S2 K2 hv
      obtain ⟨A, C, h1, h2⟩ := G3.out
      have c0 : w3.cell? ⟨g, 0, none⟩ = some (.int .i64 (D 0)) := by rw [h1.cellAt 0 (by omega)]; have := flat_get (n := n) (k := 2) (F := chCells D P A C) (fun i _ => rfl) 0 0 hn0 (by decide); simpa [chCells] using this
      have f0 : w3.frozen? ⟨g, 0, none⟩ = false := h1.frozenAt 0
      clear h1 h2
      generalize D 0 = dd at c0
      have kk : Kept (fun b => b = g) w3 (w3.setCell ⟨g, 0, none⟩ (.int .i64 v)) := Kept.setCell (S := fun b => b = g) (p := ⟨g, 0, none⟩) (Kept.refl _ _) (fun _ => rfl) _
      have G8 : Hid (GA w.heap.size (w3.setCell ⟨g, 0, none⟩ (.int .i64 v)) (.slice (some ⟨g, 0, none⟩) n cv) (upd D 0 v) P n) := by have := G3.out.digest hn0 v; exact hide (by simpa using this)
      have S9 : Hid (Src (w3.setCell ⟨g, 0, none⟩ (.int .i64 v)) p zs (t1 + 1 + 1)) := S3.out.kept kk (fun b hb e => by omega)
      have K8 : Hid (Kept (fun b => b = p) w (w3.setCell ⟨g, 0, none⟩ (.int .i64 v))) := K3.out.trans_own kk (fun b hb e => by omega)
      clear kk G3 S3 K3
      go_wp2_with fail
      refine (l1Chance_any p zs _ 40 _ S9.out HU.out (by omega) (by omega) (by decide) (by decide) hl).mono ?_
      rintro e w9 ⟨r9, rfl, s9, k9⟩
      have G9 := hide (G8.out.kept k9 (fun b h1 e => by omega))
      have S10 := hide s9
      have K9 := hide (K8.out.trans k9)
      clear s9 k9 S9 G8 K8
      cases r9 with
      | false =>
        go_wp2_with fail
        go_ret
        exact ⟨_, _, _, _, _, _, rfl, hcv8, by omega, L8.out, G9.out, S10.out, by omega, by omega, K9.out⟩
      | true =>
        go_wp2_with (first | (at_make; refine wpList_make_full _ rfl _ _ 25 rfl w.heap.size 108 i1 (.agg #[.int .i64 0, .slice none 0 0]) 2 Tryz.underlying25 ki kz0 kz1 .i64 .i64 _ _ 41 rfl rfl rfl rfl hby41 hml41 (by have := K9.out.size; omega) ?_; intro w10 ho10 hg10; have O10 := hide ho10; have K10 := hide (kept_of_none hg10); clear ho10 hg10) | fail)
        go_ret
        exact ⟨_, _, 41, fun _ => 0, fun _ => [], _, rfl, by decide, by decide, fun i hi => ⟨fun z hz => by simp at hz, by simp⟩, GA.zeros O10.out, S10.out.below (below_of_kept_false K10.out), by omega, by omega, K9.out.trans (K10.out.mono (fun b _ e => e.elim))⟩
    · by_cases h1 : r = 1
      · subst h1
        go_wp2_with fail
        refine (l1Pick_any p w2.heap.size 3 3 [0, 9, 3] zs _ _ (S2.out.below (below_alloc _ _)) HU.out (by omega) (by omega) hl (by decide) (by decide) rfl (by omega) (by simp) (cells3 _ _ _ _ _)).mono ?_
        rintro e w3 ⟨v, hv, rfl, s3, k3⟩
        have hv2 : 0 ≤ v ∧ v ≤ 9 := by simp at hv; omega
        obtain ⟨vn, rfl⟩ := Int.eq_ofNat_of_zero_le hv2.1
        have hs3 := k3.size
        have G3 := hide ((G2.out.below (below_alloc _ (.cells #[.int .i64 0, .int .i64 9, .int .i64 3] 2))).kept k3 (fun b h1 e => by omega))
        have S3 := hide s3
        have K3 := hide ((K2.out.alloc (.cells #[.int .i64 0, .int .i64 9, .int .i64 3] 2)).trans k3)
        have hs3' : w2.heap.size < w3.heap.size := by simp at hs3; omega
        clear s3 k3 G2 S2 K2 hv hs3
        go_wp2_with fail
        refine (l1Some_any p vn zs _ w3 S3.out HU.out (by omega) (by omega) hl (by omega) S3.out.lt).mono ?_
        rintro e w4 ⟨av, ac, ds, rfl, hds, hU, hown, s4, k4⟩
        have hs4 := k4.size
        have G4 := hide (G3.out.kept k4 (fun b h1 e => by omega))
        have S4 := hide s4
        have K4 := hide (K3.out.trans k4)
        have hds2 : vn = ds.length := hds.symm
        subst hds2
        have O4 := hide (ownsRow_mono (base' := w.heap.size) hown (by omega))
        have UD := hide hU
        clear s4 k4 G3 S3 K3 hown hU hds
        obtain ⟨A, C, h1, h2⟩ := G4.out
        have c0 : w4.cell? ⟨g, 1, none⟩ = some (.slice (A 0) (P 0).length (C 0)) := by rw [h1.cellAt 1 (by omega)]; have := flat_get (n := n) (k := 2) (F := chCells D P A C) (fun i _ => rfl) 0 1 hn0 (by decide); simpa [chCells] using this
        have f0 : w4.frozen? ⟨g, 1, none⟩ = false := h1.frozenAt 1
        clear h1 h2
        generalize Value.slice (A 0) (P 0).length (C 0) = oldv at c0
        have kk : Kept (fun b => b = g) w4 (w4.setCell ⟨g, 1, none⟩ (.slice av ds.length ac)) := Kept.setCell (S := fun b => b = g) (p := ⟨g, 1, none⟩) (Kept.refl _ _) (fun _ => rfl) _
        have G8 : Hid (GA w.heap.size (w4.setCell ⟨g, 1, none⟩ (.slice av ds.length ac)) (.slice (some ⟨g, 0, none⟩) n cv) D (upd P 0 ds) n) := by have := G4.out.bytes hn0 O4.out; exact hide (by simpa using this)
        have S9 : Hid (Src (w4.setCell ⟨g, 1, none⟩ (.slice av ds.length ac)) p zs (t1 + 1 + 1 + ds.length)) := S4.out.kept kk (fun b hb e => by omega)
        have K8 : Hid (Kept (fun b => b = p) w (w4.setCell ⟨g, 1, none⟩ (.slice av ds.length ac))) := K4.out.trans_own kk (fun b hb e => by omega)
        have L0 := hide L8.out
        clear L8
        have L8 : Hid (∀ i, i < n → U8 (upd P 0 ds i) ∧ (upd P 0 ds i).length ≤ 9) := fun i hi => by
          by_cases e : i = 0
          · subst e; rw [upd_same]; exact ⟨UD.out, by omega⟩
          · rw [upd_other _ _ _ e]; exact L0.out i hi
        clear kk G4 S4 K4 L0
        go_wp2_with fail
        refine (l1Chance_any p zs _ 40 _ S9.out HU.out (by omega) (by omega) (by decide) (by decide) hl).mono ?_
        rintro e w9 ⟨r9, rfl, s9, k9⟩
        have G9 := hide (G8.out.kept k9 (fun b h1 e => by omega))
        have S10 := hide s9
        have K9 := hide (K8.out.trans k9)
        clear s9 k9 S9 G8 K8
        cases r9 with
        | false =>
          go_wp2_with fail
          go_ret
          exact ⟨_, _, _, _, _, _, rfl, hcv8, by omega, L8.out, G9.out, S10.out, by omega, by omega, K9.out⟩
        | true =>
          go_wp2_with (first | (at_make; refine wpList_make_full _ rfl _ _ 25 rfl w.heap.size 108 i1 (.agg #[.int .i64 0, .slice none 0 0]) 2 Tryz.underlying25 ki kz0 kz1 .i64 .i64 _ _ 41 rfl rfl rfl rfl hby41 hml41 (by have := K9.out.size; omega) ?_; intro w10 ho10 hg10; have O10 := hide ho10; have K10 := hide (kept_of_none hg10); clear ho10 hg10) | fail)
          go_ret
          exact ⟨_, _, 41, fun _ => 0, fun _ => [], _, rfl, by decide, by decide, fun i hi => ⟨fun z hz => by simp at hz, by simp⟩, GA.zeros O10.out, S10.out.below (below_of_kept_false K10.out), by omega, by omega, K9.out.trans (K10.out.mono (fun b _ e => e.elim))⟩
      · by_cases h2 : r = 2
        · subst h2
          obtain ⟨A, C, h1', h2'⟩ := G2.out
          have c0 : w2.cell? ⟨g, 0, none⟩ = some (.int .i64 (D 0)) := by rw [h1'.cellAt 0 (by omega)]; have := flat_get (n := n) (k := 2) (F := chCells D P A C) (fun i _ => rfl) 0 0 hn0 (by decide); simpa [chCells] using this
          have c1 : w2.cell? ⟨g, 1, none⟩ = some (.slice (A 0) (P 0).length (C 0)) := by rw [h1'.cellAt 1 (by omega)]; have := flat_get (n := n) (k := 2) (F := chCells D P A C) (fun i _ => rfl) 0 1 hn0 (by decide); simpa [chCells] using this
          have A1 := hide h1'
          have AG := hide (fun (w2' : World) (v' : Value) (hv : w2'.ownsRow w.heap.size 108 2 v' (n + 1) (flat n (chCells D P A C) ++ [.int .i64 (D 0), .slice (A 0) (P 0).length (C 0)])) (hk : Kept (fun b => (Value.slice (some ⟨g, 0, none⟩) n cv).ownBlock = some b) w2 w2') => GA.again h1' hn0 h2' hv hk)
          have L0 : Hid (∀ i, i < n + 1 → U8 (upd P n (P 0) i) ∧ (upd P n (P 0) i).length ≤ 9) := fun i hi => by
            by_cases e : i = n
            · subst e; rw [upd_same]; exact L8.out 0 hn0
            · rw [upd_other _ _ _ e]; exact L8.out i (by omega)
          have hm1 : n + 1 ≤ maxLen := by unfold maxLen; omega
          have hm2 : (n + 1) * 32 ≤ 140737488355328 := by omega
          clear h1' h2' G2 L8
          generalize upd P n (P 0) = PN at *
          generalize upd D n (D 0) = DN at *
          generalize D 0 = dd at *
          generalize (P 0).length = pl at *
          generalize A 0 = aa at *
          generalize C 0 = cc at *
          generalize flat n (chCells D P A C) = FL at *
          go_wp2_with (first | (at_builtin; refine wpList_append_one rfl (.tmp 31) (.tmp 35) 25 rfl w.heap.size 108 i1 (.agg #[.int .i64 0, .slice none 0 0]) 2 32 Tryz.underlying25 ki kz0 kz1 kz2 rfl (by decide) (.slice (some ⟨g, 0, none⟩) n cv) _ _ rfl A1.out rfl rfl (by intro u hu; simp at hu; rcases hu with rfl | rfl <;> rfl) hm1 hm2 (by omega) ?_; intro v' w5 hown5 hk5; obtain ⟨av, ac, rfl⟩ := ownsRow_shape hown5; obtain ⟨g5, h5, hcv5⟩ := ownsRow_addr hown5 (.inl (by omega)); subst h5; have hs5 := hk5.size; have G8 := hide (AG.out w5 _ hown5 hk5); have S9 := hide (S2.out.kept hk5 (fun b hb e => by simp [Value.ownBlock] at e; omega)); have K8 := hide (K2.out.trans_own hk5 (fun b hb e => by simp [Value.ownBlock] at e; omega)); clear hown5 hk5 AG A1 S2 K2 c0 c1) | fail)
          have hcv0 := hcv8
          clear hcv8
          have hcv8 := hcv5
          have L8 := L0
          refine (l1Chance_any p zs _ 40 _ S9.out HU.out (by omega) (by omega) (by decide) (by decide) hl).mono ?_
          rintro e w9 ⟨r9, rfl, s9, k9⟩
          have G9 := hide (G8.out.kept k9 (fun b h1 e => by omega))
          have S10 := hide s9
          have K9 := hide (K8.out.trans k9)
          clear s9 k9 S9 G8 K8
          cases r9 with
          | false =>
            go_wp2_with fail
            go_ret
            exact ⟨_, _, _, _, _, _, rfl, hcv8, by omega, L8.out, G9.out, S10.out, by omega, by omega, K9.out⟩
          | true =>
            go_wp2_with (first | (at_make; refine wpList_make_full _ rfl _ _ 25 rfl w.heap.size 108 i1 (.agg #[.int .i64 0, .slice none 0 0]) 2 Tryz.underlying25 ki kz0 kz1 .i64 .i64 _ _ 41 rfl rfl rfl rfl hby41 hml41 (by have := K9.out.size; omega) ?_; intro w10 ho10 hg10; have O10 := hide ho10; have K10 := hide (kept_of_none hg10); clear ho10 hg10) | fail)
            go_ret
            exact ⟨_, _, 41, fun _ => 0, fun _ => [], _, rfl, by decide, by decide, fun i hi => ⟨fun z hz => by simp at hz, by simp⟩, GA.zeros O10.out, S10.out.below (below_of_kept_false K10.out), by omega, by omega, K9.out.trans (K10.out.mono (fun b _ e => e.elim))⟩
        · have h0' : (r == 0) = false := by simpa using h0
          have h1' : (r == 1) = false := by simpa using h1
          have h2' : (r == 2) = false := by simpa using h2
          have G8 := G2
          have S9 := S2
          have K8 := K2
          clear G2 S2 K2
          go_wp2_with fail
          refine (l1Chance_any p zs _ 40 _ S9.out HU.out (by omega) (by omega) (by decide) (by decide) hl).mono ?_
          rintro e w9 ⟨r9, rfl, s9, k9⟩
          have G9 := hide (G8.out.kept k9 (fun b h1 e => by omega))
          have S10 := hide s9
          have K9 := hide (K8.out.trans k9)
          clear s9 k9 S9 G8 K8
          cases r9 with
          | false =>
            go_wp2_with fail
            go_ret
            exact ⟨_, _, _, _, _, _, rfl, hcv8, by omega, L8.out, G9.out, S10.out, by omega, by omega, K9.out⟩
          | true =>
            go_wp2_with (first | (at_make; refine wpList_make_full _ rfl _ _ 25 rfl w.heap.size 108 i1 (.agg #[.int .i64 0, .slice none 0 0]) 2 Tryz.underlying25 ki kz0 kz1 .i64 .i64 _ _ 41 rfl rfl rfl rfl hby41 hml41 (by have := K9.out.size; omega) ?_; intro w10 ho10 hg10; have O10 := hide ho10; have K10 := hide (kept_of_none hg10); clear ho10 hg10) | fail)
            go_ret
            exact ⟨_, _, 41, fun _ => 0, fun _ => [], _, rfl, by decide, by decide, fun i hi => ⟨fun z hz => by simp at hz, by simp⟩, GA.zeros O10.out, S10.out.below (below_of_kept_false K10.out), by omega, by omega, K9.out.trans (K10.out.mono (fun b _ e => e.elim))⟩
  · have hn0' : ¬ (0 : Int) < (n : Int) := by omega
    have G8 := hide hG.ga
    have S9 := hide hS
    clear hS hG hR hU8 hK HC
    go_wp2_with fail
    refine (l1Chance_any p zs _ 40 _ S9.out HU.out (by omega) (by omega) (by decide) (by decide) hl).mono ?_
    rintro e w9 ⟨r9, rfl, s9, k9⟩
    have G9 := hide (G8.out.kept k9 (fun b h1 e => by omega))
    have S10 := hide s9
    have K9 := hide (K8.out.trans k9)
    clear s9 k9 S9 G8 K8
    cases r9 with
    | false =>
      go_wp2_with fail
      go_ret
      exact ⟨_, _, _, _, _, _, rfl, hcv8, by omega, L8.out, G9.out, S10.out, by omega, by omega, K9.out⟩
    | true =>
      go_wp2_with (first | (at_make; refine wpList_make_full _ rfl _ _ 25 rfl w.heap.size 108 i1 (.agg #[.int .i64 0, .slice none 0 0]) 2 Tryz.underlying25 ki kz0 kz1 .i64 .i64 _ _ 41 rfl rfl rfl rfl hby41 hml41 (by have := K9.out.size; omega) ?_; intro w10 ho10 hg10; have O10 := hide ho10; have K10 := hide (kept_of_none hg10); clear ho10 hg10) | fail)
      go_ret
      exact ⟨_, _, 41, fun _ => 0, fun _ => [], _, rfl, by decide, by decide, fun i hi => ⟨fun z hz => by simp at hz, by simp⟩, GA.zeros O10.out, S10.out.below (below_of_kept_false K10.out), by omega, by omega, K9.out.trans (K10.out.mono (fun b _ e => e.elim))⟩


end Go.Proofs.YtejipahfodhmjaaGreat

namespace Go.Proofs.YtejipahfodhmjaaGreat
open Go.RowKit Go.Maps
set_option linter.unusedVariables false
attribute [local go_sem ↓] Go.wp_at_zero Go.wp_at_succ

theorem rightC_nil (D : Nat → Int) (P : Nat → List Int) : RightC D P 0 := fault_zero (by rfl)
theorem GC.made0 (w : World) (D : Nat → Int) (P : Nat → List Int) : GC w.heap.size (w.alloc (.cells #[] 108)).heap.size (w.alloc (.cells #[] 108)) (.slice (some ⟨w.heap.size, 0, none⟩) 0 0) D P 0 :=
  ⟨fun _ => none, fun _ => 0, World.ownsRow_made w #[] 0 (Nat.le_refl _) (Nat.zero_le _) rfl, fun i hi => absurd hi (by omega), fun i i' g hi => absurd hi (by omega), fun i g hi => absurd hi (by omega), fun x hx => by simp [Value.ownBlock] at hx; subst hx; simp⟩
structure ChS (lo : Nat) (w : World) (v : Value) (D : Nat → Int) (P : Nat → List Int) (n : Nat) : Prop where
  right : RightC D P n
  u8 : ∀ i, i < n → U8 (P i)
  own : GC lo w.heap.size w v D P n
set_option maxRecDepth 100000 in
set_option maxHeartbeats 3200000 in
theorem l11Chunks_s (p : Nat) (zs : List Int) (T : Int) (w : World) (h : SrcX w p zs T) (hu : U8 zs) (hT : T ≤ 60000) (hl : zs.length ≤ 2097152) :
    Calls Tryz.prog 73 #[.pointer (some ⟨p, 0, none⟩)] w fun r w' => ∃ g cv n D P, r = .returned (.slice (some ⟨g, 0, none⟩) n cv) ∧ n ≤ cv ∧ ChS w.heap.size w' (.slice (some ⟨g, 0, none⟩) n cv) D P n ∧ SrcX w' p zs (T + 200) ∧ Kept (fun b => b = p) w w' := by
  have hp := h.lt
  have HU := hide hu
  have A0 := hide (below_alloc w (.cells #[] 108))
  have S0 := hide (h.below A0.out)
  have G0 := hide (GC.made0 w (fun _ => 0) (fun _ => []))
  have K0 := hide (show Kept (fun b => b = p) w (w.alloc (.cells #[] 108)) from Kept.of_below A0.out)
  clear h hu A0
  go_enter Tryz.func73, Tryz.ntmps73
  go_wp2_with fail
  refine (next_e p zs T 30 _ S0.out HU.out (by omega) (by decide) (by decide) hl).mono ?_
  rintro r w1 ⟨kv, rfl, hkv, s1, k1⟩
  have C1 := hide (show ChS w.heap.size w1 (.slice (some ⟨w.heap.size, 0, none⟩) 0 0) (fun _ => 0) (fun _ => []) 0 from ⟨rightC_nil _ _, fun i hi => absurd hi (by omega), (G0.out.kept k1 (fun b hb _ e => by omega)).wide k1.size⟩)
  have S1 := hide s1
  have K1 := hide (K0.out.trans k1)
  clear s1 k1 S0 G0 K0
  go_wp2_with fail
  go_loopw [3, 4, 5, 6, 7] (fun v i _ _ _ wr => ∃ (k g cv n : Nat) (D : Nat → Int) (P : Nat → List Int), i = .int .i64 k ∧ k ≤ 29 ∧ v = .slice (some ⟨g, 0, none⟩) n cv ∧ n ≤ cv ∧ Hid (ChS w.heap.size wr (.slice (some ⟨g, 0, none⟩) n cv) D P n) ∧ Hid (SrcX wr p zs (T + 1 + 4 * (29 - k))) ∧ Hid (Kept (fun b => b = p) w wr)) (fun _ i _ _ _ _ => (intOf i).toNat)
  case atStart => exact ⟨kv, w.heap.size, 0, 0, _, _, rfl, by omega, rfl, Nat.le_refl _, C1, hide (S1.out.mono (by omega)), K1⟩
  case round =>
    clear C1 S1 K1
    obtain ⟨k, g, cv, n, D, P, rfl, hk, rfl, hcv, HC, HS, HK⟩ := hrel
    have hsz := HK.out.size
    by_cases hpos : 0 < k
    · have hpos' : (0 : Int) < (k : Int) := by omega
      go_wp2_with fail
      refine (next_e p zs _ 3 _ HS.out HU.out (by omega) (by decide) (by decide) hl).mono ?_
      rintro r w2 ⟨nv, rfl, hnv, s2, k2⟩
      have S2 := hide s2
      obtain ⟨m, hm1, hm2⟩ : ∃ m : Nat, (m : Int) = 1 + (nv : Int) ∧ m ≤ 3 := ⟨1 + nv, by omega, by omega⟩
      have hwn : IntKind.i64.wrap (1 + (nv : Int)) = (m : Int) := by rw [← hm1]; simp [IntKind.wrap, IntKind.signed, IntKind.bits]; omega
      have K2 := hide k2
      clear s2 k2 hnv hm1
      go_wp2_with fail
      refine (some_e p m zs _ _ S2.out HU.out (by omega) hl (by omega)).mono ?_
      rintro r w3 ⟨a3, c3, ds, rfl, hdl, hud, ho3, s3, k3⟩
      subst hdl
      have S3 := hide s3
      have K3 := hide (K2.out.trans k3)
      have R3 := hide (reads_owned ho3 rfl)
      have hcap := ownsRow_cap ho3
      have UD := hide hud
      have GC3 := hide ((HC.out.own.kept K3.out (fun b hb _ e => by omega)).wide K3.out.size)
      have HLB := hide (l2Bytes_any (some ⟨g, 0, none⟩) cv n D P a3 c3 ds w3 GC3.out.rd HC.out.right R3.out UD.out hcap (by omega))
      have HU8 := hide (runS_u8 (s := (D, P, n)) (Z := piece ds) HC.out.u8 (fun j => UD.out.piece j) (cut ds).length)
      generalize runS (D, P, n) (piece ds) (cut ds).length = RS at *
      have hs3 := K3.out.size
      clear s3 k3 hud ho3 K2
      go_wp2_with fail
      refine HLB.out.mono ?_
      rintro r w4 ⟨hpost, hb4⟩
      have S4 := hide (S3.out.below hb4)
      have K4 := hide (K3.out.trans (Kept.of_below hb4))
      have hk1 : ((k - 1 : Nat) : Int) = (k : Int) - 1 := by omega
      cases RS with
      | none =>
        simp only at hpost
        subst hpost
        have GC4 := hide ((GC3.out.below hb4).wide hb4.size)
        clear hb4
        go_wp2_with fail
        go_roundw
        case rel => exact ⟨k - 1, g, cv, n, D, P, by rw [hk1], by omega, rfl, hcv, hide ⟨HC.out.right, HC.out.u8, GC4.out⟩, hide (S4.out.mono (by omega)), hide (HK.out.trans K4.out)⟩
        case measure => simp [intOf]; omega
      | some t =>
        obtain ⟨D4, P4, n4⟩ := t
        simp only at hpost
        obtain ⟨g4, cv4, rfl, hcv4, hR4, hG4⟩ := hpost
        have C4 := hide (show ChS w.heap.size w4 (.slice (some ⟨g4, 0, none⟩) n4 cv4) D4 P4 n4 from ⟨hR4, HU8.out _ rfl, hG4.mono (by omega)⟩)
        clear hb4 hR4 hG4
        go_wp2_with fail
        go_roundw
        case rel => exact ⟨k - 1, g4, cv4, n4, D4, P4, by rw [hk1], by omega, rfl, hcv4, C4, hide (S4.out.mono (by omega)), hide (HK.out.trans K4.out)⟩
        case measure => simp [intOf]; omega
    · have hpos' : ¬ (0 : Int) < (k : Int) := by omega
      go_wp2_with fail
      go_ret
      exact ⟨g, cv, n, rfl, hcv, ⟨D, P, HC.out⟩, HS.out.mono (by omega), HK.out⟩
end Go.Proofs.YtejipahfodhmjaaGreat

namespace Go.Proofs.YtejipahfodhmjaaGreat
open Go.RowKit
set_option linter.unusedVariables false

theorem addr_add (b o j : Nat) : (⟨b, o, none⟩ : Addr).add j = ⟨b, o + j, none⟩ := by unfold Addr.add; split <;> simp_all
end Go.Proofs.YtejipahfodhmjaaGreat

