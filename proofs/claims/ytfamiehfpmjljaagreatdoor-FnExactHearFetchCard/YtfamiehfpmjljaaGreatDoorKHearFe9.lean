/-
  Texts put together: FetD HandE FetJ FetAa FetO.
-/
import Derived.Test.YtfamiehfpmjljaaGreatDoorKHearFe5
import Derived.Test.YtfamiehfpmjljaaGreatDoorKHearFe8
import Derived.Test.YtfamiehfpmjljaaGreatDoorKHearFe3
import Derived.Lay
import Derived.LaidHandle
import Derived.LaidSub
import Derived.Stop.LaidTwo
import Derived.Deep.RegionLaw
import Derived.Deep.CutRange
namespace Go.Proofs.YtfamiehfpmjljaaGreatDoor
open Go.RowKit Go.Maps
set_option linter.unusedVariables false

structure GF (B T : Nat) (w : World) (wa : Option Addr) (wc : Nat) (W : List Wn) (fa : Option Addr) (fc : Nat) (F : List Int) (ca : Option Addr) (cc n : Nat) (D : Nat → Int) (P : Nat → List Int) : Prop where
  wants : OwnW B w (.slice wa W.length wc) W
  failed : G1 B T w (.slice fa F.length fc) F
  chunks : GC B T w (.slice ca n cc) D P n
  wlt : ∀ b, (Value.slice wa W.length wc).ownBlock = some b → b < T
theorem GF.kept {S : Nat → Prop} {B T : Nat} {w w' : World} {wa : Option Addr} {wc : Nat} {W : List Wn} {fa : Option Addr} {fc : Nat} {F : List Int} {ca : Option Addr} {cc n : Nat} {D : Nat → Int} {P : Nat → List Int} (h : GF B T w wa wc W fa fc F ca cc n D P) (hk : Kept S w w') (hn : ∀ b, B ≤ b → b < T → ¬ S b) : GF B T w' wa wc W fa fc F ca cc n D P :=
  ⟨ownsRow_kept h.wants hk (fun b hb => hn b (World.ownsRow.lt h.wants b hb).1 (h.wlt b hb)), h.failed.kept hk hn, h.chunks.kept hk hn, h.wlt⟩
theorem GF.below {B T : Nat} {w w' : World} {wa : Option Addr} {wc : Nat} {W : List Wn} {fa : Option Addr} {fc : Nat} {F : List Int} {ca : Option Addr} {cc n : Nat} {D : Nat → Int} {P : Nat → List Int} (h : GF B T w wa wc W fa fc F ca cc n D P) (hk : Below w.heap.size w w') : GF B T w' wa wc W fa fc F ca cc n D P :=
  h.kept (S := fun _ => False) (Kept.of_below hk) (fun _ _ _ => id)
theorem GF.rd {B T : Nat} {w : World} {wa : Option Addr} {wc : Nat} {W : List Wn} {fa : Option Addr} {fc : Nat} {F : List Int} {ca : Option Addr} {cc n : Nat} {D : Nat → Int} {P : Nat → List Int} (h : GF B T w wa wc W fa fc F ca cc n D P) : RdF w wa W fa F ca D P n :=
  ⟨OwnW.rd h.wants, h.failed.own.reads, h.chunks.rd⟩
theorem ResF.gf {q : Int} {W : List Wn} {F : List Int} {D : Nat → Int} {P : Nat → List Int} {n : Nat} {w w' : World} {r : Ending} (h : ResF q W F D P n w r w') :
    ∃ wa wc fa fc ca cc, r = .returned (.agg #[.int .i64 q, .slice wa W.length wc, .slice fa F.length fc, .slice ca n cc]) ∧ GF w.heap.size w'.heap.size w' wa wc W fa fc F ca cc n D P ∧ Below w.heap.size w w' := by
  obtain ⟨wa, wc, fa, fc, ca, cc, rfl, hW, hF, hG, hb⟩ := h
  exact ⟨wa, wc, fa, fc, ca, cc, rfl, ⟨hW, G1.mk hF rfl, hG, fun b hb => (World.ownsRow.lt hW b hb).2⟩, hb⟩

def markW (k : Int) (n : Nat) : List Wn := (List.range n).map fun (i : Nat) => (k + 2 * i, k + 2 * i + 1)
theorem markW_length (k : Int) (n : Nat) : (markW k n).length = n := by simp [markW]
theorem markW_getD (k : Int) (n i : Nat) (h : i < n) : (markW k n).getD i (0, 0) = (k + 2 * i, k + 2 * i + 1) := by simp [markW, List.getD_eq_getElem?_getD, h]
def mixW (k : Int) (W : List Wn) (j : Nat) : List Wn := (List.range W.length).map fun (i : Nat) => if i < j then (k + 2 * i, k + 2 * i + 1) else W.getD i (0, 0)
theorem mixW_getD (k : Int) (W : List Wn) (j i : Nat) (h : i < W.length) : (mixW k W j).getD i (0, 0) = if i < j then (k + 2 * i, k + 2 * i + 1) else W.getD i (0, 0) := by simp [mixW, List.getD_eq_getElem?_getD, h]
theorem laidW_mix0 (k : Int) (W : List Wn) : flat W.length (laidW W.length W) = flat W.length (laidW W.length (mixW k W 0)) := by
  apply flat_congr
  intro i hi
  simp only [laidW, if_pos hi, mixW_getD k W 0 i hi, Nat.not_lt_zero, if_false]
theorem laidW_mixN (k : Int) (W : List Wn) : flat W.length (laidW W.length (mixW k W W.length)) = flat W.length (laidW W.length (markW k W.length)) := by
  apply flat_congr
  intro i hi
  simp only [laidW, if_pos hi, mixW_getD k W W.length i hi, markW_getD k W.length i hi]
theorem laidW_mark {W : List Wn} {k : Int} {j : Nat} (hj : j < W.length) :
    ((flat W.length (laidW W.length (mixW k W j))).set (j * 2) (.int .i64 (k + 2 * j))).set (j * 2 + 1) (.int .i64 (k + 2 * j + 1)) = flat W.length (laidW W.length (mixW k W (j + 1))) := by
  have e := flat_set (n := W.length) (k := 2) (F := laidW W.length (mixW k W j)) (fun i _ => laidW_length _ _ _) j 0 hj (by decide) (.int .i64 (k + 2 * j))
  rw [Nat.add_zero] at e
  rw [e, flat_set (k := 2) (fun i _ => by by_cases h : i = j <;> simp [h, laidW_length]) j 1 hj (by decide)]
  apply flat_congr
  intro i hi
  by_cases h : i = j
  · subst h
    have h2 : i < i + 1 := by omega
    simp only [if_true, laidW, if_pos hi, mixW_getD k W _ i hi, if_pos h2]
    rfl
  · have h3 : (i < j + 1) = (i < j) := by apply propext; omega
    simp only [if_neg h, laidW, if_pos hi, mixW_getD k W _ i hi, h3]
set_option maxRecDepth 100000 in
set_option maxHeartbeats 1600000 in
theorem markWantS_any (B : Nat) (wa : Option Addr) (wc : Nat) (W : List Wn) (k : Int) (w : World) (h : OwnW B w (.slice wa W.length wc) W) (hk0 : 0 ≤ k) (hk1 : k ≤ 1048576) (hl : W.length ≤ 1048576) :
    Calls Tryz.prog 80 #[.slice wa W.length wc, .int .i64 k] w fun e w' => e = .returned (.int .i64 (k + 2 * W.length)) ∧ w'.ownsRow B 120 2 (.slice wa W.length wc) W.length (flat W.length (laidW W.length (markW k W.length))) ∧ Kept (fun b => (Value.slice wa W.length wc).ownBlock = some b) w w' := by
  have HO : Hid (w.ownsRow B 120 2 (.slice wa W.length wc) W.length (flat W.length (laidW W.length (mixW k W 0)))) := by
    rw [← laidW_mix0]
    exact h
  clear h
  go_enter Tryz.func80, Tryz.ntmps80
  go_wp2
  go_loopw [1, 5] (fun q i wr => ∃ j : Nat, j ≤ W.length ∧ i = .int .i64 j ∧ q = .int .i64 (k + 2 * j) ∧ Hid (wr.ownsRow B 120 2 (.slice wa W.length wc) W.length (flat W.length (laidW W.length (mixW k W j)))) ∧ Hid (Kept (fun b => (Value.slice wa W.length wc).ownBlock = some b) w wr)) (fun _ i _ => W.length - (intOf i).toNat)
  case atStart => exact ⟨0, Nat.zero_le _, rfl, by simp, HO, hide (Kept.refl _ _)⟩
  case round =>
    obtain ⟨j, hj, rfl, rfl, HT, HK⟩ := hrel
    clear HO
    by_cases hlt : j < W.length
    · obtain ⟨g, hga, hc⟩ := ownsRow_addr HT.out (.inl (by omega))
      subst hga
      have hf := flat_get (n := W.length) (k := 2) (F := laidW W.length (mixW k W j)) (fun i _ => laidW_length _ _ _) j
      have z0 : ∃ u0, (flat W.length (laidW W.length (mixW k W j)))[j * 2]? = some (.int .i64 u0) := by
        have := hf 0 hlt (by decide)
        rw [Nat.add_zero] at this
        rw [this]
        simp only [laidW, if_pos hlt]
        exact ⟨_, rfl⟩
      have z1 : ∃ u1, (flat W.length (laidW W.length (mixW k W j)))[j * 2 + 1]? = some (.int .i64 u1) := by
        rw [hf 1 hlt (by decide)]
        simp only [laidW, if_pos hlt]
        exact ⟨_, rfl⟩
      obtain ⟨u0, z0⟩ := z0
      obtain ⟨u1, z1⟩ := z1
      have hfl := flat_length (n := W.length) (k := 2) (F := laidW W.length (mixW k W j)) (fun i _ => laidW_length _ _ _)
      have m0 : wr.cell? ⟨g, j * 2, none⟩ = some (.int .i64 u0) := (HT.out.cellAt (j * 2) (by omega)).trans z0
      have m1 : wr.cell? ⟨g, j * 2 + 1, none⟩ = some (.int .i64 u1) := (HT.out.cellAt (j * 2 + 1) (by omega)).trans z1
      have m2 := HT.out.frozenAt (j * 2)
      have m3 := HT.out.frozenAt (j * 2 + 1)
      have HS := hide (laidW_mark (k := k) hlt)
      have hw1 : IntKind.i64.wrap (k + 2 * j + 1) = k + 2 * j + 1 := by simp [IntKind.wrap, IntKind.signed, IntKind.bits]; omega
      have hw2 : IntKind.i64.wrap (k + 2 * j + 1 + 1) = k + 2 * j + 1 + 1 := by simp [IntKind.wrap, IntKind.signed, IntKind.bits]; omega
      have hw0 : IntKind.i64.wrap (k + 2 * j) = k + 2 * j := by simp [IntKind.wrap, IntKind.signed, IntKind.bits]; omega
      clear hf z0 z1 hfl
      go_wp2_with fail
      go_roundw
      case rel =>
        refine ⟨j + 1, by omega, by go_num, by go_num, hide ?_, hide ?_⟩
        · have := ((HT.out.stored (j * 2) (.int .i64 (k + 2 * j))).1.stored (j * 2 + 1) (.int .i64 (k + 2 * j + 1))).1
          rwa [HS.out] at this
        · exact (HK.out.setCell (p := ⟨g, j * 2, none⟩) (fun _ => rfl) _).setCell (p := ⟨g, j * 2 + 1, none⟩) (fun _ => rfl) _
      case measure => simp [intOf]; omega
    · have hje : j = W.length := by omega
      subst hje
      go_wp2
      go_ret
      refine ⟨rfl, ?_, HK.out⟩
      rw [← laidW_mixN]
      exact HT.out
set_option maxRecDepth 100000 in
set_option maxHeartbeats 1600000 in
theorem heldWantS_any (wa : Option Addr) (wc n : Nat) (k : Int) (w : World) (h : RdW w wa (markW k n)) (hk0 : 0 ≤ k) (hk1 : k ≤ 1048576) (hl : n ≤ 1048576) :
    Calls Tryz.prog 113 #[.slice wa n wc, .int .i64 k] w fun e w' => e = .returned (.int .i64 (k + 2 * n)) ∧ w' = w := by
  have HH := hide h
  clear h
  go_enter Tryz.func113, Tryz.ntmps113
  go_wp2
  go_loop [1, 5] (fun q i => ∃ j : Nat, j ≤ n ∧ i = .int .i64 j ∧ q = .int .i64 (k + 2 * j)) (fun _ i => n - (intOf i).toNat)
  case atStart => exact ⟨0, Nat.zero_le _, rfl, by simp⟩
  case round =>
    obtain ⟨j, hj, rfl, rfl⟩ := hrel
    by_cases hlt : j < n
    · obtain ⟨b, off, rfl, hb, hc⟩ := HH.out (by intro e; have := markW_length k n; rw [e] at this; simp at this; omega)
      obtain ⟨c0, c1⟩ := hc j (by rw [markW_length]; exact hlt)
      rw [markW_getD _ _ _ hlt] at c0 c1
      have hw1 : IntKind.i64.wrap (k + 2 * j + 1) = k + 2 * j + 1 := by simp [IntKind.wrap, IntKind.signed, IntKind.bits]; omega
      have hw2 : IntKind.i64.wrap (k + 2 * j + 1 + 1) = k + 2 * j + 1 + 1 := by simp [IntKind.wrap, IntKind.signed, IntKind.bits]; omega
      have hw0 : IntKind.i64.wrap (k + 2 * j) = k + 2 * j := by simp [IntKind.wrap, IntKind.signed, IntKind.bits]; omega
      clear hc
      go_wp2_with fail
      go_round
      case rel => exact ⟨j + 1, by omega, by go_num, by go_num⟩
      case measure => simp [intOf]; omega
    · have hje : j = n := by omega
      subst hje
      go_wp2
      go_ret
      exact ⟨rfl, rfl⟩

theorem GC.types {B T : Nat} {w : World} {G : Nat} {c : Nat} {D : Nat → Int} {P : Nat → List Int} {n j : Nat} {x : Option Addr} {y m : Nat} (h : GC B T w (.slice (some ⟨G, 0, none⟩) n c) D P n) (hj : j < n) (hc : w.cell? ⟨G, j * 2 + 1, none⟩ = some (.slice x m y)) :
    (∃ cur z, w.heap[G]? = some (.cells cur 70 z)) ∧ ∀ b, blkOf x b → ∃ cur z, w.heap[b]? = some (.cells cur 5 z) := by
  obtain ⟨A, C, h1, h2, h3, h4, h5⟩ := h
  have h6 := h1
  rcases h1.2 with ⟨h', h0⟩ | ⟨G', cap, cur, h', hb, hh, hnc, hcm, hcs, htake⟩
  · omega
  · simp only [Value.slice.injEq, Option.some.injEq, Addr.mk.injEq, and_true, true_and] at h'
    obtain ⟨rfl, rfl⟩ := h'
    refine ⟨⟨cur, _, hh⟩, fun b hb => ?_⟩
    have hf := flat_get (n := n) (k := 2) (F := chCells D P A C) (fun i _ => rfl) j 1 hj (by decide)
    have hl := flat_length (n := n) (k := 2) (F := chCells D P A C) (fun i _ => rfl)
    have h7 := h6.cellAt (j * 2 + 1) (by omega)
    rw [hc, hf] at h7
    simp only [chCells, List.getElem?_cons_succ, List.getElem?_cons_zero, Option.some.injEq, Value.slice.injEq] at h7
    obtain ⟨rfl, _, _⟩ := h7
    rcases (h2 j hj).2 with ⟨h8, h9⟩ | ⟨g, cap2, cur2, h8, hb2, hh2, _⟩
    · simp only [Value.slice.injEq] at h8
      rw [h8.1] at hb
      simp [blkOf] at hb
    · simp only [Value.slice.injEq] at h8
      rw [h8.1] at hb
      simp only [blkOf, Option.map_some, Option.some.injEq] at hb
      subst hb
      exact ⟨cur2, _, hh2⟩
def ChOf (w : World) (b : Nat) : Prop := ∀ cur t z, w.heap[b]? = some (.cells cur t z) → t = 70 ∨ t = 5
theorem Kept.fine {S R : Nat → Prop} {w w' w'' : World} (h : Kept S w w') (k : Kept R w' w'') (hS : ∀ b, b < w.heap.size → w'.heap[b]? = w.heap[b]? → R b → S b) : Kept S w w'' :=
  ⟨k.os.trans h.os, k.tape.trans h.tape, k.output.trans h.output, Nat.le_trans h.size k.size, fun b hb hn => (k.block b (Nat.lt_of_lt_of_le hb h.size) (fun hR => hn (hS b hb (h.block b hb hn) hR))).trans (h.block b hb hn)⟩
set_option maxRecDepth 100000 in
set_option maxHeartbeats 1600000 in
theorem markChunkS_fine (B T : Nat) (a : Option Addr) (c n : Nat) (D : Nat → Int) (P : Nat → List Int) (k : Int) (w : World) (h : GC B T w (.slice a n c) D P n) (hk0 : 0 ≤ k) (hk1 : k ≤ 16777216) (hn : n ≤ 1048576) (hl : ahead P n ≤ 1048576) :
    Calls Tryz.prog 82 #[.slice a n c, .int .i64 k] w fun e w' => e = .returned (.int .i64 (k + n + ahead P n)) ∧ GC B T w' (.slice a n c) (markD k P) (markP k P) n ∧ Kept (fun b => (B ≤ b ∧ b < T) ∧ ChOf w b) w w' := by
  have HH := hide h
  clear h
  go_enter Tryz.func82, Tryz.ntmps82
  go_wp2
  go_loopw [1, 5] (fun q i wr => ∃ j : Nat, j ≤ n ∧ i = .int .i64 j ∧ q = .int .i64 (k + j + ahead P j) ∧ GC B T wr (.slice a n c) (fun t => if t < j then markD k P t else D t) (fun t => if t < j then markP k P t else P t) n ∧ Kept (fun b => (B ≤ b ∧ b < T) ∧ ChOf w b) w wr) (fun _ i _ => n - (intOf i).toNat)
  case atStart => exact ⟨0, Nat.zero_le _, rfl, by simp [ahead], by simpa using HH.out, Kept.refl _ _⟩
  case round =>
    obtain ⟨j, hj, rfl, rfl, hG, hkept⟩ := hrel
    have HK := hide hkept
    clear hkept
    by_cases hlt : j < n
    · have hle := ahead_le P (i := j + 1) (j := n) (by omega)
      have hsu : ahead P (j + 1) = ahead P j + (P j).length := rfl
      have HSu := hide hsu
      simp only [ahead] at hle
      clear hsu
      obtain ⟨G, x, y, rfl, hg1, hg2, c0, c1, f0, f1, ho, hx, hback⟩ := hG.open hlt
      have HTy := hide (hG.types hlt c1)
      simp only [Nat.lt_irrefl, if_false] at c0 c1 ho hback
      have hlen : (P j).length ≤ 1048576 := by omega
      have HG := hide hG
      have HO := hide ho
      have HX := hide hx
      have HBK := hide hback
      clear hG ho hx hback
      generalize hxs : P j = xs at *
      generalize D j = dd at c0
      generalize hah : ahead P j = A0 at *
      have HXS := hide (And.intro hxs hah)
      clear hxs hah
      have c1' : ∀ u, (wr.setCell ⟨G, j * 2, none⟩ u).cell? ⟨G, j * 2 + 1, none⟩ = some (.slice x xs.length y) := fun u => (cell_set_other (by intro e; have := congrArg Addr.off e; simp at this)).trans c1
      have OK : Hid (∀ u, Own .u8 (wr.setCell ⟨G, j * 2, none⟩ u) x xs) := fun u => HO.out.kept (Kept.setCell (S := fun b => b = G) (p := ⟨G, j * 2, none⟩) (Kept.refl _ _) (fun _ => rfl) u) (fun b hb e => (HX.out b hb).2.2 e)
      go_wp2_with (go_at_call 33; refine (markByteS_any _ _ xs _ _ (OK.out _) (by omega) (by omega) (by omega)).mono ?_; rintro e w1 ⟨rfl, ho1, hk1', hs1⟩; have HO1 := hide ho1; have HK1 := hide hk1'; have HS1 := hide hs1; clear ho1 hk1' hs1)
      go_roundw
      case rel =>
        refine ⟨j + 1, by omega, by go_num, by rw [HSu.out]; go_num, ?_, ?_⟩
        · refine (HBK.out _ _ _ (by simp [marks_length]) HO1.out HK1.out HS1.out).congr (fun i hi => ?_) (fun i hi => ?_)
          · by_cases e : i = j
            · subst e; rw [if_pos (by omega), upd_same]; simp [markD, HXS.out.2]
            · rw [upd_other _ _ _ e]
              by_cases e2 : i < j
              · rw [if_pos (by omega), if_pos e2]
              · rw [if_neg (by omega), if_neg e2]
          · by_cases e : i = j
            · subst e; rw [if_pos (by omega), upd_same]; simp only [markP, HXS.out.1, HXS.out.2]
            · rw [upd_other _ _ _ e]
              by_cases e2 : i < j
              · rw [if_pos (by omega), if_pos e2]
              · rw [if_neg (by omega), if_neg e2]
        · have hR : Kept (fun b => b = G ∨ blkOf x b) wr w1 := Kept.trans (Kept.setCell (p := ⟨G, j * 2, none⟩) (Kept.refl _ _) (fun _ => .inl rfl) _) (HK1.out.mono (fun b _ hS => .inr hS))
          refine HK.out.fine hR (fun b hb he hb2 => ?_)
          rcases hb2 with rfl | hb2
          · refine ⟨⟨hg1, hg2⟩, fun cur t z ht => ?_⟩
            obtain ⟨cu, zz, hh⟩ := HTy.out.1
            rw [he, ht] at hh
            simp only [Option.some.injEq, Obj.cells.injEq] at hh
            exact .inl hh.2.1
          · refine ⟨⟨(HX.out b hb2).1, (HX.out b hb2).2.1⟩, fun cur t z ht => ?_⟩
            obtain ⟨cu, zz, hh⟩ := HTy.out.2 b hb2
            rw [he, ht] at hh
            simp only [Option.some.injEq, Obj.cells.injEq] at hh
            exact .inr hh.2.1
      case measure => simp [intOf]; omega
    · have hje : j = n := by omega
      subst hje
      go_wp2
      go_ret
      exact ⟨rfl, hG.congr (fun i hi => by rw [if_pos hi]) (fun i hi => by rw [if_pos hi]), HK.out⟩
theorem row_no_ch {w : World} {B : Nat} {e : TypeId} {s n : Nat} {v : Value} {xs : List Value} (h : w.ownsRow B e s v n xs) (h1 : e ≠ 70) (h2 : e ≠ 5) {b : Nat} (hb : v.ownBlock = some b) : ¬ ChOf w b := by
  intro hc
  rcases h.2 with ⟨rfl, _⟩ | ⟨g, cap, cur, rfl, _, hh, _⟩
  · simp [Value.ownBlock] at hb
  · simp only [Value.ownBlock, Option.some.injEq] at hb
    subst hb
    rcases hc _ _ _ hh with h3 | h3
    · exact h1 h3
    · exact h2 h3
theorem GC.kept_row {B T B' : Nat} {w w' : World} {v v' : Value} {D : Nat → Int} {P : Nat → List Int} {n n' s : Nat} {e : TypeId} {xs : List Value} (h : GC B T w v D P n) (hr : w.ownsRow B' e s v' n' xs) (h1 : e ≠ 70) (h2 : e ≠ 5) (hk : Kept (fun b => v'.ownBlock = some b) w w') : GC B T w' v D P n := by
  obtain ⟨A, C, k1, k2, k3, k4, k5⟩ := h
  exact ⟨A, C, ownsRow_kept k1 hk (fun b hb e1 => rows_apart hr k1 h1 e1 hb), fun i hi => ownsRow_kept (k2 i hi) hk (fun b hb e1 => rows_apart hr (k2 i hi) h2 e1 hb), k3, k4, k5⟩
theorem blk_own {a : Option Addr} {n c b : Nat} (h : blkOf a b) : (Value.slice a n c).ownBlock = some b := by
  cases a with
  | none => simp [blkOf] at h
  | some x => simpa [blkOf, Value.ownBlock] using h
set_option maxRecDepth 100000 in
set_option maxHeartbeats 3200000 in
theorem markFetch_any (B T : Nat) (wa : Option Addr) (wc : Nat) (W : List Wn) (fa : Option Addr) (fc : Nat) (F : List Int) (ca : Option Addr) (cc n : Nat) (D : Nat → Int) (P : Nat → List Int) (k : Int) (w : World) (h : GF B T w wa wc W fa fc F ca cc n D P) (hT : T ≤ w.heap.size) (hk0 : 0 ≤ k) (hk1 : k ≤ 1048576) (hW : W.length ≤ 1048576) (hF : F.length ≤ 1048576) (hn : n ≤ 1048576) (hl : ahead P n ≤ 1048576) :
    Calls Tryz.prog 28 #[fetV wa W.length wc fa F.length fc ca n cc, .int .i64 k] w fun e w' => e = .returned (.int .i64 (k + 2 * W.length + F.length + n + ahead P n)) ∧ GF B T w' wa wc (markW k W.length) fa fc (marks64 (k + 2 * W.length) F.length) ca cc n (markD (k + 2 * W.length + F.length) P) (markP (k + 2 * W.length + F.length) P) ∧ Kept (fun b => B ≤ b ∧ b < T) w w' := by
  have B0 := hide (below_alloc w (.cells #[.slice wa W.length wc, .slice fa F.length fc, .slice ca n cc] 28))
  have X0 := hide (Bx3.new w (.slice wa W.length wc) (.slice fa F.length fc) (.slice ca n cc) 28)
  have G0 := hide (h.below B0.out)
  have hwl := h.wlt
  have hfl := h.failed.2
  have HL := hide (And.intro hwl hfl)
  clear h hwl hfl
  unfold fetV
  go_enter Tryz.func28, Tryz.ntmps28
  obtain ⟨⟨t0, t1, t2⟩, -, -, -⟩ := X0.out
  go_wp2_with fail
  clear t0 t1 t2
  generalize w.alloc (.cells #[.slice wa W.length wc, .slice fa F.length fc, .slice ca n cc] 28) = W0 at *
  refine (markWantS_any B wa wc W k W0 G0.out.wants hk0 hk1 hW).mono ?_
  rintro e w1 ⟨rfl, ho1, hk1'⟩
  have O1 := hide ho1
  have K1 := hide hk1'
  have F1 : Hid (G1 B T w1 (.slice fa F.length fc) F) := hide ⟨ownsRow_kept G0.out.failed.1 hk1' (fun b hb e => rows_apart G0.out.wants G0.out.failed.1 (by decide) e hb), G0.out.failed.2⟩
  have C1 := hide (G0.out.chunks.kept_row G0.out.wants (by decide) (by decide) hk1')
  have X1 := hide (X0.out.kept hk1' (fun e => by have := HL.out.1 _ e; omega))
  clear ho1 hk1'
  obtain ⟨⟨t0, t1, t2⟩, -, -, -⟩ := X1.out
  go_wp2_with fail
  clear t0 t1 t2
  refine (markInt64S_any fa fc F (k + 2 * W.length) w1 F1.out.own (by omega) (by omega) (by omega)).mono ?_
  rintro e w2 ⟨rfl, ho2, hk2, hs2⟩
  have F2 := hide (F1.out.mark (marks64_length (k + 2 * W.length) F.length) ho2 hs2)
  have K2 : Hid (Kept (fun b => (Value.slice fa F.length fc).ownBlock = some b) w1 w2) := hide (hk2.mono (fun b _ hb => blk_own hb))
  have O2 := hide (ownsRow_kept O1.out K2.out (fun b hb e => rows_apart F1.out.1 O1.out (by decide) e hb))
  have C2 := hide (C1.out.kept_row F1.out.1 (by decide) (by decide) K2.out)
  have X2 := hide (X1.out.kept K2.out (fun e => by have := HL.out.2 _ e; omega))
  clear ho2 hk2 hs2
  obtain ⟨⟨t0, t1, t2⟩, -, -, -⟩ := X2.out
  go_wp2_with fail
  clear t0 t1 t2
  refine (markChunkS_fine B T ca cc n D P (k + 2 * W.length + F.length) w2 C2.out (by omega) (by omega) hn hl).mono ?_
  rintro e w3 ⟨rfl, hg3, hk3⟩
  have G3 := hide hg3
  have K3 := hide hk3
  have O3 := hide (ownsRow_kept O2.out hk3 (fun b hb e => row_no_ch O2.out (by decide) (by decide) hb e.2))
  have F3 := hide (ownsRow_kept F2.out.1 hk3 (fun b hb e => row_no_ch F2.out.1 (by decide) (by decide) hb e.2))
  clear hg3 hk3
  go_wp2_with fail
  go_ret
  have hm1 := markW_length k W.length
  have hm2 := marks64_length (k + 2 * W.length) F.length
  refine ⟨rfl, ⟨?_, ⟨?_, ?_⟩, G3.out, ?_⟩, ?_⟩
  · unfold OwnW
    rw [hm1]
    exact O3.out
  · rw [hm2] at F3 ⊢
    exact F3.out
  · rw [hm2]
    exact F2.out.2
  · rw [hm1]
    exact HL.out.1
  · have q1 : Kept (fun b => B ≤ b ∧ b < T) w w1 := (Kept.of_below B0.out).trans (K1.out.mono (fun b _ hb => ⟨(World.ownsRow.lt G0.out.wants b hb).1, HL.out.1 b hb⟩))
    exact (q1.trans (K2.out.mono (fun b _ hb => ⟨(World.ownsRow.lt F1.out.1 b hb).1, HL.out.2 b hb⟩))).trans (K3.out.mono (fun b _ hb => hb.1))
set_option maxRecDepth 100000 in
set_option maxHeartbeats 3200000 in
theorem heldFetch_any (wa : Option Addr) (wc a : Nat) (fa : Option Addr) (fc b : Nat) (ca : Option Addr) (cc n : Nat) (P : Nat → List Int) (w : World) (h : RdF w wa (markW 1 a) fa (marks64 (1 + 2 * a) b) ca (markD (1 + 2 * a + b) P) (markP (1 + 2 * a + b) P) n) (ha : a ≤ 1000) (hb : b ≤ 1000) (hn : n ≤ 1048576) (hl : ahead P n ≤ 1048576) :
    Calls Tryz.prog 83 #[fetV wa a wc fa b fc ca n cc, .int .i64 1] w fun e w' => e = .returned (.int .i64 (1 + 2 * a + b + n + ahead P n)) ∧ Below w.heap.size w w' := by
  have B0 := hide (below_alloc w (.cells #[.slice wa a wc, .slice fa b fc, .slice ca n cc] 28))
  have X0 := hide (Bx3.new w (.slice wa a wc) (.slice fa b fc) (.slice ca n cc) 28)
  have G0 := hide (h.below B0.out)
  clear h
  have h1 : ¬ (1 : Int) + 2 * a < 0 := by omega
  have h2 : ¬ (1 : Int) + 2 * a + b < 0 := by omega
  have h3 : ¬ (1 : Int) + 2 * a + b + n + ahead P n < 0 := by omega
  unfold fetV
  go_enter Tryz.func83, Tryz.ntmps83
  obtain ⟨⟨t0, t1, t2⟩, -, -, -⟩ := X0.out
  go_wp2_with fail
  generalize w.alloc (.cells #[.slice wa a wc, .slice fa b fc, .slice ca n cc] 28) = W0 at *
  refine (heldWantS_any wa wc a 1 W0 G0.out.wants (by decide) (by decide) (by omega)).mono ?_
  rintro e w1 ⟨rfl, rfl⟩
  go_wp2_with fail
  refine (heldInt64S_any fa fc b (1 + 2 * a) w1 G0.out.failed (by omega) (by omega) (by omega)).mono ?_
  rintro e w1 ⟨rfl, rfl⟩
  go_wp2_with fail
  refine (heldChunkS_any ca cc n P (1 + 2 * a + b) w1 G0.out.chunks (by omega) (by omega) hn hl).mono ?_
  rintro e w2 ⟨rfl, hb2⟩
  have B2 := hide (below_next B0.out hb2)
  clear hb2 t0 t1 t2
  go_wp2_with fail
  go_ret
  exact ⟨rfl, B2.out⟩
set_option maxRecDepth 100000 in
set_option maxHeartbeats 3200000 in
theorem markFetchResult_any (q : Int) (B T : Nat) (wa : Option Addr) (wc : Nat) (W : List Wn) (fa : Option Addr) (fc : Nat) (F : List Int) (ca : Option Addr) (cc n : Nat) (D : Nat → Int) (P : Nat → List Int) (w : World) (h : GF B T w wa wc W fa fc F ca cc n D P) (hT : T ≤ w.heap.size) (hW : W.length ≤ 1000) (hF : F.length ≤ 1000) (hn : n ≤ 1048576) (hl : ahead P n ≤ 1048576) :
    Calls Tryz.prog 29 #[.agg #[.int .i64 q, .slice wa W.length wc, .slice fa F.length fc, .slice ca n cc], .int .i64 1] w fun e w' => e = .returned (.int .i64 (1 + 2 * W.length + F.length + n + ahead P n)) ∧ GF B T w' wa wc (markW 1 W.length) fa fc (marks64 (1 + 2 * W.length) F.length) ca cc n (markD (1 + 2 * W.length + F.length) P) (markP (1 + 2 * W.length + F.length) P) ∧ Kept (fun b => B ≤ b ∧ b < T) w w' := by
  have B0 := hide (below_alloc w (.cells #[.int .i64 q, .slice wa W.length wc, .slice fa F.length fc, .slice ca n cc] 32))
  have X0 := hide (Bx4.new w (.int .i64 q) (.slice wa W.length wc) (.slice fa F.length fc) (.slice ca n cc) 32)
  have HM := hide (markFetch_any B T wa wc W fa fc F ca cc n D P 1 _ (h.below B0.out) (by have := B0.out.size; omega) (by decide) (by decide) (by omega) (by omega) hn hl)
  clear h
  unfold fetV at HM
  go_enter Tryz.func29, Tryz.ntmps29
  obtain ⟨⟨t0, t1, t2, t3⟩, -, -, -, -⟩ := X0.out
  go_wp2_with fail
  clear t0 t1 t2 t3
  generalize w.alloc (.cells #[.int .i64 q, .slice wa W.length wc, .slice fa F.length fc, .slice ca n cc] 32) = W0 at *
  refine HM.out.mono ?_
  rintro e w1 ⟨rfl, hg1, hk1⟩
  have G1 := hide hg1
  have K1 := hide hk1
  clear hg1 hk1
  go_wp2_with fail
  go_ret
  exact ⟨rfl, G1.out, (Kept.of_below B0.out).trans K1.out⟩
set_option maxRecDepth 100000 in
set_option maxHeartbeats 3200000 in
theorem heldFetchResult_any (q : Int) (wa : Option Addr) (wc a : Nat) (fa : Option Addr) (fc b : Nat) (ca : Option Addr) (cc n : Nat) (P : Nat → List Int) (w : World) (h : RdF w wa (markW 1 a) fa (marks64 (1 + 2 * a) b) ca (markD (1 + 2 * a + b) P) (markP (1 + 2 * a + b) P) n) (ha : a ≤ 1000) (hb : b ≤ 1000) (hn : n ≤ 1048576) (hl : ahead P n ≤ 1048576) :
    Calls Tryz.prog 30 #[.agg #[.int .i64 q, .slice wa a wc, .slice fa b fc, .slice ca n cc], .int .i64 1] w fun e w' => e = .returned (.int .i64 (1 + 2 * a + b + n + ahead P n)) ∧ Below w.heap.size w w' := by
  have B0 := hide (below_alloc w (.cells #[.int .i64 q, .slice wa a wc, .slice fa b fc, .slice ca n cc] 32))
  have X0 := hide (Bx4.new w (.int .i64 q) (.slice wa a wc) (.slice fa b fc) (.slice ca n cc) 32)
  have HM := hide (heldFetch_any wa wc a fa fc b ca cc n P _ (h.below B0.out) ha hb hn hl)
  have h3 : ¬ (1 : Int) + 2 * a + b + n + ahead P n < 0 := by omega
  clear h
  unfold fetV at HM
  go_enter Tryz.func30, Tryz.ntmps30
  obtain ⟨⟨t0, t1, t2, t3⟩, -, -, -, -⟩ := X0.out
  go_wp2_with fail
  clear t0 t1 t2 t3
  generalize w.alloc (.cells #[.int .i64 q, .slice wa a wc, .slice fa b fc, .slice ca n cc] 32) = W0 at *
  refine HM.out.mono ?_
  rintro e w1 ⟨rfl, hb1⟩
  have B1 := hide (below_next B0.out hb1)
  clear hb1
  go_wp2_with fail
  go_ret
  exact ⟨rfl, B1.out⟩
set_option maxRecDepth 100000 in
set_option maxHeartbeats 3200000 in
theorem eqFetchResult_same (q : Int) (wa wa2 : Option Addr) (wc wc2 : Nat) (W : List Wn) (fa fa2 : Option Addr) (fc fc2 : Nat) (F : List Int) (ca ca2 : Option Addr) (cc cc2 n : Nat) (D : Nat → Int) (P : Nat → List Int) (w : World) (h : RdF w wa W fa F ca D P n) (h2 : RdF w wa2 W fa2 F ca2 D P n) (hW : W.length ≤ 1048576) (hF : F.length ≤ 1048576) (hn : n ≤ 1048576) (hP : ∀ i, i < n → (P i).length ≤ 1048576) :
    Calls Tryz.prog 26 #[.agg #[.int .i64 q, .slice wa W.length wc, .slice fa F.length fc, .slice ca n cc], .agg #[.int .i64 q, .slice wa2 W.length wc2, .slice fa2 F.length fc2, .slice ca2 n cc2]] w fun e w' => e = .returned (.bool true) ∧ Below w.heap.size w w' := by
  have B0 := hide (below_next (below_alloc w (.cells #[.int .i64 q, .slice wa W.length wc, .slice fa F.length fc, .slice ca n cc] 32)) (below_alloc _ (.cells #[.int .i64 q, .slice wa2 W.length wc2, .slice fa2 F.length fc2, .slice ca2 n cc2] 32)))
  have HM := hide (eqFetch_same wa wa2 wc wc2 W fa fa2 fc fc2 F ca ca2 cc cc2 n D P _ (h.below B0.out) (h2.below B0.out) hW hF hn hP)
  clear h h2 hP
  unfold fetV at HM
  have hne : (q != q) = false := by simp
  go_enter Tryz.func26, Tryz.ntmps26
  go_wp2_with fail
  generalize (w.alloc (.cells #[.int .i64 q, .slice wa W.length wc, .slice fa F.length fc, .slice ca n cc] 32)).alloc (.cells #[.int .i64 q, .slice wa2 W.length wc2, .slice fa2 F.length fc2, .slice ca2 n cc2] 32) = W0 at *
  refine HM.out.mono ?_
  rintro e w1 ⟨rfl, hb1⟩
  have B1 := hide (below_next B0.out hb1)
  clear hb1
  go_wp2_with fail
  go_ret
  exact ⟨rfl, B1.out⟩
set_option maxRecDepth 100000 in
set_option maxHeartbeats 1600000 in
theorem toFetch_own (wa : Option Addr) (wc : Nat) (W : List Wn) (fa : Option Addr) (fc : Nat) (F : List Int) (ca : Option Addr) (cc n : Nat) (D : Nat → Int) (P : Nat → List Int) (w : World) (h : RdF w wa W fa F ca D P n) (hW : W.length ≤ 1048576) (hF : F.length ≤ 1048576) (hn : n ≤ 1048576) (hP : ∀ i, i < n → (P i).length ≤ 1048576) :
    Calls Tryz.prog 25 #[fetV wa W.length wc fa F.length fc ca n cc] w fun e w' => ∃ g1 g2 g3, e = .returned (fetV (some ⟨g1, 0, none⟩) W.length W.length (some ⟨g2, 0, none⟩) F.length F.length (some ⟨g3, 0, none⟩) n n) ∧ GF w.heap.size w'.heap.size w' (some ⟨g1, 0, none⟩) W.length W (some ⟨g2, 0, none⟩) F.length F (some ⟨g3, 0, none⟩) n n D P ∧ Below w.heap.size w w' := by
  have HR := hide h
  have HP := hide hP
  clear h hP
  unfold fetV
  have B0 := hide (below_next (below_next (below_alloc w (.cells #[.slice wa W.length wc, .slice fa F.length fc, .slice ca n cc] 51)) (below_alloc _ (.cells #[.slice none 0 0, .slice none 0 0, .slice none 0 0] 28))) (below_alloc _ (.cells #[.slice none 0 0, .slice none 0 0, .slice none 0 0] 28)))
  have X0 := hide (((Bx3.new w (.slice wa W.length wc) (.slice fa F.length fc) (.slice ca n cc) 51).below (below_alloc _ (.cells #[.slice none 0 0, .slice none 0 0, .slice none 0 0] 28))).below (below_alloc _ (.cells #[.slice none 0 0, .slice none 0 0, .slice none 0 0] 28)))
  go_enter Tryz.func25, Tryz.ntmps25
  go_wp2_with fail
  have XR := hide ((Bx3.new (w.alloc (.cells #[.slice wa W.length wc, .slice fa F.length fc, .slice ca n cc] 51)) (.slice none 0 0) (.slice none 0 0) (.slice none 0 0) 28).below (below_alloc _ (.cells #[.slice none 0 0, .slice none 0 0, .slice none 0 0] 28)))
  have XO := hide (Bx3.new ((w.alloc (.cells #[.slice wa W.length wc, .slice fa F.length fc, .slice ca n cc] 51)).alloc (.cells #[.slice none 0 0, .slice none 0 0, .slice none 0 0] 28)) (.slice none 0 0) (.slice none 0 0) (.slice none 0 0) 28)
  have hs : (((w.alloc (.cells #[.slice wa W.length wc, .slice fa F.length fc, .slice ca n cc] 51)).alloc (.cells #[.slice none 0 0, .slice none 0 0, .slice none 0 0] 28)).alloc (.cells #[.slice none 0 0, .slice none 0 0, .slice none 0 0] 28)).heap.size = w.heap.size + 3 := by simp
  have hs1 : (w.alloc (.cells #[.slice wa W.length wc, .slice fa F.length fc, .slice ca n cc] 51)).heap.size = w.heap.size + 1 := by simp
  have hs2 : ((w.alloc (.cells #[.slice wa W.length wc, .slice fa F.length fc, .slice ca n cc] 51)).alloc (.cells #[.slice none 0 0, .slice none 0 0, .slice none 0 0] 28)).heap.size = w.heap.size + 1 + 1 := by simp
  rw [hs1] at XR
  rw [hs2] at XO
  clear hs1 hs2
  generalize ((w.alloc (.cells #[.slice wa W.length wc, .slice fa F.length fc, .slice ca n cc] 51)).alloc (.cells #[.slice none 0 0, .slice none 0 0, .slice none 0 0] 28)).alloc (.cells #[.slice none 0 0, .slice none 0 0, .slice none 0 0] 28) = W0 at *
  refine (toWantS_any wa wc W W0 (HR.out.wants.below B0.out) hW).mono ?_
  rintro e w1 ⟨g1, rfl, hg1, ho1, hb1⟩
  have O1 := hide ho1
  have X01 := hide (X0.out.below hb1)
  have XR1 := hide (XR.out.below hb1)
  have XO1 := hide (XO.out.below hb1)
  have B1 := hide (below_next B0.out hb1)
  have hz1 := hb1.size
  clear ho1 hb1 X0 XR XO B0
  obtain ⟨⟨t0, t1, t2⟩, -, -, -⟩ := X01.out
  obtain ⟨⟨y0, y1, y2⟩, y3, y4, y5⟩ := XO1.out
  have A2 : Hid (Bx3 (w1.setCell ⟨w.heap.size + 1 + 1, 0, none⟩ (.slice (some ⟨g1, 0, none⟩) W.length W.length)) w.heap.size (.slice wa W.length wc) (.slice fa F.length fc) (.slice ca n cc)) := hide (X01.out.kept (Kept.one _ _ _ _) (by omega))
  have A3 : Hid (Bx3 (w1.setCell ⟨w.heap.size + 1 + 1, 0, none⟩ (.slice (some ⟨g1, 0, none⟩) W.length W.length)) (w.heap.size + 1) (.slice none 0 0) (.slice none 0 0) (.slice none 0 0)) := hide (XR1.out.kept (Kept.one _ _ _ _) (by omega))
  have A4 := hide (XO1.out.set0 (.slice (some ⟨g1, 0, none⟩) W.length W.length))
  have A5 : Hid (OwnW W0.heap.size (w1.setCell ⟨w.heap.size + 1 + 1, 0, none⟩ (.slice (some ⟨g1, 0, none⟩) W.length W.length)) (.slice (some ⟨g1, 0, none⟩) W.length W.length) W) := hide (ownsRow_kept O1.out (Kept.one _ _ _ _) (fun b hb e => by have := (World.ownsRow.lt O1.out b hb).1; omega))
  have A6 : Hid (Below w.heap.size w (w1.setCell ⟨w.heap.size + 1 + 1, 0, none⟩ (.slice (some ⟨g1, 0, none⟩) W.length W.length))) := hide (B1.out.setCell (by show w.heap.size ≤ w.heap.size + 1 + 1; omega) _)
  have A7 : (w1.setCell ⟨w.heap.size + 1 + 1, 0, none⟩ (.slice (some ⟨g1, 0, none⟩) W.length W.length)).heap.size = w1.heap.size := by simp [World.setCell]
  obtain ⟨⟨q0, q1, q2⟩, -, -, -⟩ := A2.out
  go_wp2_with fail
  clear t0 t1 t2 y0 y1 y2 y3 y4 y5 q0 q1 q2 O1 X01 XR1 XO1 B1
  generalize w1.setCell ⟨w.heap.size + 1 + 1, 0, none⟩ (.slice (some ⟨g1, 0, none⟩) W.length W.length) = W1 at *
  refine (toInt64S_any fa fc F W1 (HR.out.failed.below A6.out) hF).mono ?_
  rintro e w2 ⟨rfl, ho2, hb2⟩
  have O2 : Hid (w2.ownsRow W0.heap.size 2 1 (.slice (some ⟨W1.heap.size, 0, none⟩) F.length F.length) F.length (F.map (Value.int .i64))) := hide (ownsRow_of_row ho2 (by have := A7; omega) (by unfold maxLen; omega))
  have hg2 : W0.heap.size ≤ W1.heap.size := by have := A7; omega
  obtain ⟨g2, hG2⟩ : ∃ g2, g2 = W1.heap.size := ⟨_, rfl⟩
  rw [← hG2] at O2 ⊢
  have hg2' : W0.heap.size ≤ g2 := by omega
  clear hG2
  have X02 := hide (A2.out.below hb2)
  have XR2 := hide (A3.out.below hb2)
  have XO2 := hide (A4.out.below hb2)
  have OW2 : Hid (OwnW W0.heap.size w2 (.slice (some ⟨g1, 0, none⟩) W.length W.length) W) := hide (ownsRow_below A5.out hb2)
  have B2 := hide (below_next A6.out hb2)
  have hz2 := hb2.size
  clear ho2 hb2 A2 A3 A4 A5 A6
  obtain ⟨⟨y0, y1, y2⟩, y3, y4, y5⟩ := XO2.out
  have D2 : Hid (Bx3 (w2.setCell ⟨w.heap.size + 1 + 1, 1, none⟩ (.slice (some ⟨g2, 0, none⟩) F.length F.length)) w.heap.size (.slice wa W.length wc) (.slice fa F.length fc) (.slice ca n cc)) := hide (X02.out.kept (Kept.one _ _ _ _) (by omega))
  have D3 : Hid (Bx3 (w2.setCell ⟨w.heap.size + 1 + 1, 1, none⟩ (.slice (some ⟨g2, 0, none⟩) F.length F.length)) (w.heap.size + 1) (.slice none 0 0) (.slice none 0 0) (.slice none 0 0)) := hide (XR2.out.kept (Kept.one _ _ _ _) (by omega))
  have D4 := hide (XO2.out.set1 (.slice (some ⟨g2, 0, none⟩) F.length F.length))
  have D5 : Hid (OwnW W0.heap.size (w2.setCell ⟨w.heap.size + 1 + 1, 1, none⟩ (.slice (some ⟨g2, 0, none⟩) F.length F.length)) (.slice (some ⟨g1, 0, none⟩) W.length W.length) W) := hide (ownsRow_kept OW2.out (Kept.one _ _ _ _) (fun b hb e => by have := (World.ownsRow.lt OW2.out b hb).1; omega))
  have D5b : Hid ((w2.setCell ⟨w.heap.size + 1 + 1, 1, none⟩ (.slice (some ⟨g2, 0, none⟩) F.length F.length)).ownsRow W0.heap.size 2 1 (.slice (some ⟨g2, 0, none⟩) F.length F.length) F.length (F.map (Value.int .i64))) := hide (ownsRow_kept O2.out (Kept.one _ _ _ _) (fun b hb e => by have := (O2.out.lt b hb).1; omega))
  have D6 : Hid (Below w.heap.size w (w2.setCell ⟨w.heap.size + 1 + 1, 1, none⟩ (.slice (some ⟨g2, 0, none⟩) F.length F.length))) := hide (B2.out.setCell (by show w.heap.size ≤ w.heap.size + 1 + 1; omega) _)
  have D7 : (w2.setCell ⟨w.heap.size + 1 + 1, 1, none⟩ (.slice (some ⟨g2, 0, none⟩) F.length F.length)).heap.size = w2.heap.size := by simp [World.setCell]
  obtain ⟨⟨q0, q1, q2⟩, -, -, -⟩ := D2.out
  go_wp2_with fail
  clear y0 y1 y2 y3 y4 y5 q0 q1 q2 O2 X02 XR2 XO2 OW2 B2
  generalize w2.setCell ⟨w.heap.size + 1 + 1, 1, none⟩ (.slice (some ⟨g2, 0, none⟩) F.length F.length) = W2 at *
  refine (toChunkS_any ca cc n D P W2 (HR.out.chunks.below D6.out) hn HP.out).mono ?_
  rintro e w3 ⟨g3, rfl, hg3, ho3, hb3⟩
  have O3 := hide ho3
  have XR3 := hide (D3.out.below hb3)
  have XO3 := hide (D4.out.below hb3)
  have OW3 : Hid (OwnW W0.heap.size w3 (.slice (some ⟨g1, 0, none⟩) W.length W.length) W) := hide (ownsRow_below D5.out hb3)
  have OF3 := hide (ownsRow_below D5b.out hb3)
  have B3 := hide (below_next D6.out hb3)
  have hz3 := hb3.size
  clear ho3 hb3 D2 D3 D4 D5 D5b D6
  obtain ⟨⟨y0, y1, y2⟩, y3, y4, y5⟩ := XO3.out
  have E3 : Hid (Bx3 (w3.setCell ⟨w.heap.size + 1 + 1, 2, none⟩ (.slice (some ⟨g3, 0, none⟩) n n)) (w.heap.size + 1) (.slice none 0 0) (.slice none 0 0) (.slice none 0 0)) := hide (XR3.out.kept (Kept.one _ _ _ _) (by omega))
  have E4 : Hid (Bx3 (w3.setCell ⟨w.heap.size + 1 + 1, 2, none⟩ (.slice (some ⟨g3, 0, none⟩) n n)) (w.heap.size + 1 + 1) (.slice (some ⟨g1, 0, none⟩) W.length W.length) (.slice (some ⟨g2, 0, none⟩) F.length F.length) (.slice (some ⟨g3, 0, none⟩) n n)) := hide (by
    obtain ⟨⟨m0, m1, m2⟩, f0, f1, f2⟩ := XO3.out
    refine ⟨⟨?_, ?_, cell_set_same m2⟩, ?_, ?_, ?_⟩
    · rw [cell_set_other (by simp)]; exact m0
    · rw [cell_set_other (by simp)]; exact m1
    · rw [World.frozen?_setCell]; exact f0
    · rw [World.frozen?_setCell]; exact f1
    · rw [World.frozen?_setCell]; exact f2)
  obtain ⟨⟨r0, r1, r2⟩, r3, r4, r5⟩ := E3.out
  obtain ⟨⟨s0, s1, s2⟩, s3, s4, s5⟩ := E4.out
  go_wp2_with fail
  have hk : Kept (fun b => b = w.heap.size + 1 ∨ b = w.heap.size + 1 + 1) w3 (((((w3.setCell ⟨w.heap.size + 1 + 1, 2, none⟩ (.slice (some ⟨g3, 0, none⟩) n n))).setCell ⟨w.heap.size + 1, 0, none⟩ (.slice (some ⟨g1, 0, none⟩) W.length W.length)).setCell ⟨w.heap.size + 1, 1, none⟩ (.slice (some ⟨g2, 0, none⟩) F.length F.length)).setCell ⟨w.heap.size + 1, 2, none⟩ (.slice (some ⟨g3, 0, none⟩) n n)) :=
    Kept.setCell (p := ⟨w.heap.size + 1, 2, none⟩) (Kept.setCell (p := ⟨w.heap.size + 1, 1, none⟩) (Kept.setCell (p := ⟨w.heap.size + 1, 0, none⟩) (Kept.setCell (p := ⟨w.heap.size + 1 + 1, 2, none⟩) (Kept.refl _ _) (fun _ => .inr rfl) _) (fun _ => .inl rfl) _) (fun _ => .inl rfl) _) (fun _ => .inl rfl) _
  refine bodyPost_ret (v := .agg #[.slice (some ⟨g1, 0, none⟩) W.length W.length, .slice (some ⟨g2, 0, none⟩) F.length F.length, .slice (some ⟨g3, 0, none⟩) n n]) (by simp [results, Tryz.results25, go_sem, r0, r1, r2]) rfl ⟨g1, g2, g3, rfl, ?_, B3.out.trans (hk.below B3.out.size (fun k hk hS => by omega))⟩
  have hzz : (((((w3.setCell ⟨w.heap.size + 1 + 1, 2, none⟩ (.slice (some ⟨g3, 0, none⟩) n n))).setCell ⟨w.heap.size + 1, 0, none⟩ (.slice (some ⟨g1, 0, none⟩) W.length W.length)).setCell ⟨w.heap.size + 1, 1, none⟩ (.slice (some ⟨g2, 0, none⟩) F.length F.length)).setCell ⟨w.heap.size + 1, 2, none⟩ (.slice (some ⟨g3, 0, none⟩) n n)).heap.size = w3.heap.size := by simp [World.setCell]
  have hWk := ownsRow_kept OW3.out hk (fun b hb hS => by have := (World.ownsRow.lt OW3.out b hb).1; omega)
  have hFk := ownsRow_kept OF3.out hk (fun b hb hS => by have := (OF3.out.lt b hb).1; omega)
  refine ⟨ownsRow_mono hWk (by omega), ⟨ownsRow_mono hFk (by omega), fun b hb => (hFk.lt b hb).2⟩, ?_, fun b hb => (hWk.lt b hb).2⟩
  rw [hzz]
  exact (O3.out.kept hk (fun b h1 h2 hS => by omega)).mono (by omega)
end Go.Proofs.YtfamiehfpmjljaaGreatDoor

namespace Go.Proofs.YtfamiehfpmjljaaGreatDoor
open Go
set_option linter.unusedVariables false

theorem laidMetH_layVars {P : Program} {w0 : World} {laid : List (String × DataW Unit)} (args : Array Value)
    (hf : w0.layFits P (laid.filter fun x => x.2.handleName?.isNone) [] = true)
    (hi : w0.layIfaces P (laid.filter fun x => x.2.handleName?.isNone) (w0.layVars P (laid.filter fun x => x.2.handleName?.isNone)) = true)
    (hh : (laid.filter fun x => x.2.handleName?.isSome).all (handleAtB P ((w0.layVars P (laid.filter fun x => x.2.handleName?.isNone)).forCall (fun _ _ => 0) ⟨#[], args, []⟩).memory) = true) :
    laidMetH P laid ((w0.layVars P (laid.filter fun x => x.2.handleName?.isNone)).forCall (fun _ _ => 0) ⟨#[], args, []⟩).memory := by
  refine laidMetH_of_parts ?_ hh
  generalize (laid.filter fun x => x.2.handleName?.isNone) = l at hf hi
  have e1 : (l.filter fun x => (l.map (·.1)).contains x.1) = l := List.filter_eq_self.2 fun x hx => List.contains_iff_mem.2 (List.mem_map.2 ⟨x, hx, rfl⟩)
  have e2 : (l.filter fun x => !(l.map (·.1)).contains x.1) = [] := List.filter_eq_nil_iff.2 fun x hx => by rw [List.contains_iff_mem.2 (List.mem_map.2 ⟨x, hx, rfl⟩)]; simp
  have h : laidMet P l (w0.layVars P l) := laidMet_layVars (w0 := w0) (l.map (·.1)) [] (by rw [e1]) (by rw [e1]; exact hf) (by rw [e1]; exact hi) (by rw [e2]; exact LaidIn.none)
  exact h.of_heap (by simp [World.memory, World.forCall, Input.heap])
theorem gE : Tryz.prog.globalNamed "errors.errorType" = some 2 := by kernel_rfl
theorem gRt : (Tryz.prog.cutTypes.find? (·.1 == "internal/reflectlite.rtype")).map (·.2) = some 189 := by kernel_rfl
theorem gOne : ((List.range 295).filter fun t => Tryz.prog.rowNamed t [101, 114, 114, 111, 114]) = [76] := by kernel_rfl
theorem gSize : Tryz.prog.types.size = 295 := by kernel_rfl
theorem gStar : "*" ++ "errors.errorString" = "*errors.errorString" := by decide
theorem gRow (u : TypeId) (h : Tryz.prog.typeName? 3 u = some "*errors.errorString") : u = 262 :=
  typeName_ptr_named (nm := "errors.errorString") (by rw [gStar]; kernel_rfl) (by kernel_rfl) (by decide) u (by rw [gStar]; exact h)
theorem gU : Tryz.prog.globalNamed "loop.example/g00299/impl.errUnwanted" = some 0 := by kernel_rfl
theorem gUType : (Tryz.prog.globals[0]?).map (·.type) = some 76 := by kernel_rfl
theorem gN : Tryz.prog.globalNamed "loop.example/g00299/impl.errNoRoom" = some 1 := by kernel_rfl
theorem gNType : (Tryz.prog.globals[1]?).map (·.type) = some 76 := by kernel_rfl
theorem ge_of_laid {W : World} (h : laidMetH Tryz.prog [("errors.errorType", Rows.laid_errors_errorType), ("loop.example/g00299/impl.errNoRoom", Rows.laid_loop_example_g00299_impl_errNoRoom), ("loop.example/g00299/impl.errUnwanted", Rows.laid_loop_example_g00299_impl_errUnwanted)] W) : ∃ a0 a1, Ge W a0 a1 := by
  have h' : laidMet Tryz.prog [("loop.example/g00299/impl.errNoRoom", Rows.laid_loop_example_g00299_impl_errNoRoom), ("loop.example/g00299/impl.errUnwanted", Rows.laid_loop_example_g00299_impl_errUnwanted)] W ∧ handlesMet Tryz.prog [("errors.errorType", Rows.laid_errors_errorType)] W := h
  obtain ⟨name, u, ty, e1, e2, e3, e4, e5⟩ := h'.2 _ (List.mem_singleton.2 rfl)
  have en : name = [101, 114, 114, 111, 114] := (Option.some.inj e1).symm
  subst en
  obtain rfl := Option.some.inj (gRt.symm.trans e2)
  have hm : ty ∈ (List.range 295).filter fun t => Tryz.prog.rowNamed t [101, 114, 114, 111, 114] := List.mem_filter.2 ⟨List.mem_range.2 (by rw [← gSize]; exact e3), e4⟩
  rw [gOne] at hm
  obtain rfl := List.mem_singleton.1 hm
  have hh : typeHandle Tryz.prog 76 = .pointer (some ⟨4, 76, none⟩) := by kernel_rfl
  rw [hh] at e5
  obtain ⟨a0, a1, s0, s1, c0, c1, t0, t1, hv0, hv1, hc0, hs0, hz0, hc1, hs1, hz1, hne, hb0, hb1⟩ := laid_sentinels2 h'.1 gN gNType gU gUType Tryz.underlying76 gRow Tryz.underlying262 Tryz.underlying283 rfl rfl Tryz.underlying9 (by kernel_rfl) (by kernel_rfl)
  refine ⟨a1, a0, ?_, ?_, ?_, fun e => hne e.symm, ⟨c1, t1, hb1⟩, c0, t0, hb0⟩
  · simpa using World.var?_cell gU hv1 0
  · simpa using World.var?_cell gN hv0 0
  · simpa using World.var?_cell gE e5 0
end Go.Proofs.YtfamiehfpmjljaaGreatDoor

namespace Go.Proofs.YtfamiehfpmjljaaGreatDoor
open Go.RowKit Go.Maps
set_option linter.unusedVariables false

theorem OwnF.now {B fb : Nat} {w : World} {W : List Wn} {F : List Int} {L : List Ch} (h : OwnF B fb w W F L) : ∃ wa wk ps fa fc bm N, NowF B fb w W F L wa wk ps fa fc bm N ∧ N ≤ 1000 := by
  obtain ⟨wa, wk, ps, fa, fc, bm, N, h1, h2, ⟨h3, h4⟩, h5, h6, h7, h8⟩ := h
  exact ⟨wa, wk, ps, fa, fc, bm, N, ⟨h1, h2, h3, h4, h5, h6, h7, by omega⟩, h8⟩
end Go.Proofs.YtfamiehfpmjljaaGreatDoor

namespace Go.Proofs.YtfamiehfpmjljaaGreatDoor
open Go.RowKit Go.Maps
set_option linter.unusedVariables false

theorem first_of {f : Nat → Int} {d : Int} (i : Nat) (h : f i = d) : ∃ k, k ≤ i ∧ f k = d ∧ ∀ j, j < k → f j ≠ d := by
  induction i using Nat.strongRecOn with
  | ind i ih =>
    by_cases hx : ∃ j, j < i ∧ f j = d
    · obtain ⟨j, hj, e⟩ := hx
      obtain ⟨k, hk, e2, h3⟩ := ih j hj e
      exact ⟨k, by omega, e2, h3⟩
    · exact ⟨i, Nat.le_refl _, h, fun j hj e => hx ⟨j, hj, e⟩⟩
theorem fet_zero {W : List Wn} {F : List Int} {D : Nat → Int} {P : Nat → List Int} {n : Nat} (h : fetFault W F D P n = 0) : RightC D P n ∧ FitF W F (keysC D n) := by
  unfold fetFault at h
  split at h
  · rename_i h1; exact absurd h h1
  · rename_i h1
    exact ⟨fault_zero (Decidable.not_not.1 h1), lists_zero.1 h⟩
theorem ahead_le8 {P : Nat → List Int} {n : Nat} (h : ∀ i, i < n → (P i).length ≤ 8) : ∀ k, k ≤ n → ahead P k ≤ 8 * k
  | 0, _ => Nat.le_refl _
  | k + 1, hk => by
    have h1 := ahead_le8 h k (by omega)
    have h2 := h k (by omega)
    simp only [ahead]; omega
structure Bnd (W : List Wn) (F : List Int) (P : Nat → List Int) (n : Nat) : Prop where
  bw : W.length ≤ 1000
  bf : F.length ≤ 1000
  bn : n ≤ 1048576
  bp : ∀ i, i < n → (P i).length ≤ 1048576
  ba : ahead P n ≤ 1048576
theorem Bnd.none (P : Nat → List Int) : Bnd [] [] P 0 := ⟨by simp, by simp, by omega, fun i hi => by omega, by simp [ahead]⟩
theorem RightC.bnd {W : List Wn} {F : List Int} {D : Nat → Int} {P : Nat → List Int} {n : Nat} (h : RightC D P n) (hW : W.length ≤ 1000) (hF : F.length ≤ 1000) : Bnd W F P n := by
  have h1 := h.many
  have h2 := ahead_le8 (P := P) (n := n) (fun i hi => (h.len i hi).2) n (Nat.le_refl _)
  exact ⟨hW, hF, by omega, fun i hi => by have := (h.len i hi).2; omega, by omega⟩
theorem want_at {W : List Wn} {d : Int} (h : d ∈ W.map Prod.fst) : ∃ i, i < W.length ∧ (W.getD i (0, 0)).1 = d ∧ ∀ j, j < i → (W.getD j (0, 0)).1 ≠ d := by
  obtain ⟨x, hx, rfl⟩ := List.mem_map.1 h
  obtain ⟨i, hi, e⟩ := List.getElem_of_mem hx
  have e2 : (W.getD i (0, 0)).1 = x.1 := by rw [List.getD_eq_getElem?_getD, List.getElem?_eq_getElem hi]; exact congrArg Prod.fst e
  obtain ⟨k, hk, e3, h3⟩ := first_of (f := fun j => (W.getD j (0, 0)).1) i e2
  exact ⟨k, by omega, e3, h3⟩
theorem want_no {W : List Wn} {d : Int} (h : d ∉ W.map Prod.fst) : ∀ j, j < W.length → (W.getD j (0, 0)).1 ≠ d := fun j hj e => h (List.mem_map.2 ⟨_, getD_mem (0, 0) hj, e⟩)
theorem want_other {W : List Wn} {d : Int} {i : Nat} (hn : (W.map Prod.fst).Nodup) (hi : i < W.length) (hd : (W.getD i (0, 0)).1 = d) : ∀ j, j < W.length → j ≠ i → (W.getD j (0, 0)).1 ≠ d := by
  intro j hj hne e
  rw [List.nodup_iff_pairwise_ne, List.pairwise_iff_getElem] at hn
  have g : ∀ k, (hk : k < W.length) → (W.map Prod.fst)[k]'(by simpa using hk) = (W.getD k (0, 0)).1 := fun k hk => by
    rw [List.getElem_map, List.getD_eq_getElem?_getD, List.getElem?_eq_getElem hk]; rfl
  rcases Nat.lt_or_gt_of_ne hne with h | h
  · exact hn j i (by simpa using hj) (by simpa using hi) h (by rw [g j hj, g i hi, e, hd])
  · exact hn i j (by simpa using hi) (by simpa using hj) h (by rw [g j hj, g i hi, e, hd])
end Go.Proofs.YtfamiehfpmjljaaGreatDoor

namespace Go.Proofs.YtfamiehfpmjljaaGreatDoor
open Go.RowKit Go.Maps
set_option linter.unusedVariables false

theorem row_far {w : World} {B b n : Nat} {v : Value} {zs : List Int} {a : Option Addr} {m c : Nat} (h : w.ownsRow B 2 1 v n (zs.map (Value.int .i64))) (hn : 0 < n) (hz : n = zs.length) (hb : w.cell? ⟨b, 0, none⟩ = some (.slice a m c)) : ∀ x, v.ownBlock = some x → x ≠ b := by
  rintro x hx rfl
  rcases h.2 with ⟨h', hh⟩ | ⟨g, cap, cur, rfl, hg, hgg, _⟩
  · omega
  · simp only [Value.ownBlock, Option.some.injEq] at hx
    subst hx
    have h1 := World.ownsRow.cellAt h 0 (by omega)
    rw [hb] at h1
    have hl : 0 < zs.length := by omega
    simp [List.getElem?_eq_getElem hl] at h1
set_option maxRecDepth 100000 in
set_option maxHeartbeats 6400000 in
theorem lose_last (B fb i : Nat) (W : List Wn) (F : List Int) (L : List Ch) (wa : Option Addr) (wk : Nat) (ps : List Nat) (fa : Option Addr) (fc bm N : Nat) (d t : Int) (a0 a1 : Addr) (w : World) (hgl : ∀ u : World, Below B w u → Ge u a0 a1) (h : NowF B fb w W F L wa wk ps fa fc bm N) (hB : B ≤ fb) (hl : W.length ≤ 1048576) (hi : i < W.length) (hd : W.getD i (0, 0) = (d, t)) (hf : ∀ j, j < W.length → j ≠ i → (W.getD j (0, 0)).1 ≠ d) (h0 : 0 ≤ t) (h9 : t ≤ 9) (h3 : ¬ t + 1 < 3) (h40 : ¬ 40 ≤ F.length) :
    Calls Tryz.prog 58 #[.pointer (some ⟨fb, 0, none⟩), .int .i64 d] w fun e w' => e = .returned .nilIface ∧ (∃ fa' fc', EndF B fb w' (W.eraseIdx i) (F ++ [d]) L wa wk (ps.eraseIdx i) fa' fc' bm N) ∧ Below B w w' := by
  obtain ⟨i1, ki, kz0, kz1, kz2⟩ := info_parts Tryz.infoI64
  have hd1 : (W.getD i (0, 0)).1 = d := by rw [hd]
  have HW := hide (wanted_yes fb wa wk i ps W d w h.box.1.1 h.wants.rd hl hi hd1 (fun j hj => hf j (by omega) (by omega)) (ps.getD i 0) rfl)
  have A1 := hide (below_alloc w (.cells #[.int .i64 0] 131))
  have N1 := hide (h.below A1.out)
  have hbx := (N1.out.wants.box i hi)
  rw [hd] at hbx
  have HLT := hide (lostTry_last (ps.getD i 0) d t _ hbx.2 h0 h9 h3)
  have hpl := hbx.1
  have hplt := (h.wants.box i hi).2.1.lt
  have hfl := h.box.lt
  have HGL := hide hgl
  have HT := hide (N1.out.wants.tries hi d (t + 1) hd1)
  have h41 : ¬ (40 : Int) ≤ (F.length : Int) := by omega
  have hel : (W.set i (d, t + 1)).length = W.length := List.length_set
  have her : (W.set i (d, t + 1)).eraseIdx i = W.eraseIdx i := by
    apply List.ext_getElem?
    intro j
    rw [List.getElem?_eraseIdx, List.getElem?_eraseIdx]
    split
    · rw [List.getElem?_set, if_neg (by omega)]
    · rw [List.getElem?_set, if_neg (by omega)]
  have HUQ : Hid (((W.set i (d, t + 1)).getD i (0, 0)).1 = d ∧ ∀ j, j < (W.set i (d, t + 1)).length → j ≠ i → ((W.set i (d, t + 1)).getD j (0, 0)).1 ≠ d) := hide ⟨by rw [getD_set W (0, 0) _ hi, if_pos rfl], fun j hj hji => by rw [getD_set W (0, 0) _ hi, if_neg hji]; exact hf j (by rw [hel] at hj; exact hj) hji⟩
  have HPL : Hid (∀ j, j < W.length → ps.getD j 0 < w.heap.size) := hide (fun j hj => (h.wants.box j hj).2.1.lt)
  have hwo : ∀ b, (Value.slice wa W.length wk).ownBlock = some b → fb + 1 ≤ b ∧ b < w.heap.size := fun b hb => h.wants.row.lt b hb
  clear hf hbx hd hd1 hgl
  generalize ps.getD i 0 = p at *
  have HB2 : Hid (Below fb w ((w.alloc (.cells #[.int .i64 0] 131)).setCell ⟨p, 1, none⟩ (.int .i64 (t + 1)))) := hide ((A1.out.mono (by omega)).setCell (by show fb ≤ p; omega) _)
  have hk1 := Kept.one (w.alloc (.cells #[.int .i64 0] 131)) p 1 (.int .i64 (t + 1))
  have N2 : Hid (NowF B fb ((w.alloc (.cells #[.int .i64 0] 131)).setCell ⟨p, 1, none⟩ (.int .i64 (t + 1))) (W.set i (d, t + 1)) F L wa wk ps fa fc bm N) := hide ⟨by rw [hel]; exact N1.out.box.kept hk1 (by omega), by rw [hel]; exact HT.out, ownsRow_kept N1.out.failed hk1 (fun b hb e => by have := N1.out.ahead b hb; omega), N1.out.ahead, N1.out.held.kept hk1 (by have := N1.out.high; omega) (fun x hx => by omega), N1.out.low, N1.out.high, N1.out.room⟩
  have HAH := hide (as_hit d w.heap.size (.int .i64 0) _ (HGL.out _ (HB2.out.mono hB)).ty (by rw [cell_set_far (by omega) (by simp : (w.alloc (.cells #[.int .i64 0] 131)).cell? ⟨w.heap.size, 0, none⟩ = some (.int .i64 0))]) (by rw [World.frozen?_setCell]; simp))
  clear h hk1 HT N1
  go_enter Tryz.func58, Tryz.ntmps58
  go_wp2_with fail
  refine HW.out.mono ?_
  rintro e w ⟨rfl, rfl⟩
  go_wp2_with fail
  have hsw : w.heap.size < (w.alloc (.cells #[.int .i64 0] 131)).heap.size := by simp
  generalize w.alloc (.cells #[.int .i64 0] 131) = W1 at *
  generalize hq : w.heap.size = q at *
  refine HLT.out.mono ?_
  rintro e w2 ⟨rfl, rfl⟩
  go_wp2_with fail
  refine HAH.out.mono ?_
  rintro e w3 ⟨rfl, hc3, hf3, hk3⟩
  have HB3 := hide (HB2.out.trans (hk3.below (B := fb) (by simp [World.setCell]; omega) (fun k hk e => by omega)))
  have N3 : Hid (NowF B fb w3 (W.set i (d, t + 1)) F L wa wk ps fa fc bm N) := hide ⟨N2.out.box.kept hk3 (by omega), ⟨ownsRow_kept N2.out.wants.row hk3 (fun b hb e => by rw [hel] at hb; have := hwo b hb; omega), N2.out.wants.len, fun j hj => ⟨(N2.out.wants.box j hj).1, (N2.out.wants.box j hj).2.kept hk3 (fun e => by have h1 := HPL.out j (by rw [hel] at hj; exact hj); omega)⟩, N2.out.wants.one⟩, ownsRow_kept N2.out.failed hk3 (fun b hb e => by have := N2.out.ahead b hb; omega), N2.out.ahead, N2.out.held.kept hk3 (by have := N2.out.high; omega) (fun x hx => by omega), N2.out.low, N2.out.high, N2.out.room⟩
  have HWM := hide (wantNoMore_any B fb i (W.set i (d, t + 1)) F L wa wk ps fa fc bm N d w3 N3.out hB (by rw [hel]; exact hl) (by rw [hel]; exact hi) HUQ.out.1 HUQ.out.2)
  rw [her, hel] at HWM
  have hlt3 : q < w3.heap.size := World.block_lt_of_cell? w3 ⟨q, 0, none⟩ hc3
  obtain ⟨⟨x0, x1, x2⟩, x3, x4, x5⟩ := N3.out.box
  clear hk3
  go_wp2_with fail
  clear x0 x1 x2 x3 x4 x5
  refine HWM.out.mono ?_
  rintro e w4 ⟨rfl, hN4, hb4, hk4⟩
  have N4 := hide hN4
  have HB4 := hide (HB3.out.trans hb4)
  have hqn : ¬ (q = fb ∨ (Value.slice wa W.length wk).ownBlock = some q) := fun e => e.elim (fun e => by omega) (fun e => by have := (hwo q e).2; omega)
  have hc4 : w4.cell? ⟨q, 0, none⟩ = some (.int .i64 d) := (hk4.cell (p := ⟨q, 0, none⟩) hlt3 hqn).trans hc3
  have hsz4 : B ≤ w4.heap.size := by have := N4.out.box.lt; omega
  have hm1 : F.length + 1 ≤ maxLen := by unfold maxLen; omega
  have hm2 : (F.length + 1) * 8 ≤ 140737488355328 := by omega
  have hfo : ∀ b, (Value.slice fa F.length fc).ownBlock = some b → b < fb ∧ b ≠ bm := fun b hb => ⟨N4.out.ahead b hb, row_map N4.out.failed N4.out.held b hb⟩
  have hfb4 := N4.out.box.lt
  clear hN4 hb4 hk4 hc3 hf3 HLT HAH HWM N2 N3 HB2 HB3 HW A1 HUQ hq
  obtain ⟨⟨x0, x1, x2⟩, x3, x4, x5⟩ := N4.out.box
  go_upto_region 10 with fail
  go_region_law
    ((refine step_append_own (by rfl) (.tmp 33) (.tmp 36) 25 (by rfl) B 2 i1 (.int .i64 0) 1 8 Tryz.underlying25 ki kz0 kz1 kz2 rfl (by decide) (.slice fa F.length fc) F.length (F.map (Value.int .i64)) (by rfl) (N4.out.failed.alloc _) ⟨w4.heap.size, 0, none⟩ 1 1 [.int .i64 d] (by rfl) (by rfl) (news1 (by simp)) (by intro u hu; simp at hu; subst hu; rfl) (F.length + 1) rfl hm1 hm2 (by simp; omega) ?_; intro a' c' w5 hrow5 hk5; have O5 := hide hrow5; have K5 := hide hk5; have X5 := hide (((N4.out.box.below (Below.refl _ _).drew).below (below_alloc _ _)).kept hk5 (fun e => by have := (hfo _ e).1; omega)); clear hrow5 hk5; obtain ⟨⟨y0, y1, y2⟩, y3, y4, y5⟩ := X5.out))
  all_goals
    have BA := hide ((below_alloc w4 (.cells #[.int .i64 d] 2)).drew)
    have hk6 := Kept.one w5 fb 1 (.slice a' (F.length + 1) c')
    have hfl1 : (F ++ [d]).length = F.length + 1 := by simp
    have O6 : Hid (w5.ownsRow B 2 1 (.slice a' (F.length + 1) c') (F.length + 1) ((F ++ [d]).map (Value.int .i64))) := hide (by rw [List.map_append]; exact O5.out)
    have hfar := row_far O6.out (by omega) hfl1.symm X5.out.1.1
    have hend : EndF B fb (w5.setCell ⟨fb, 1, none⟩ (.slice a' (F.length + 1) c')) (W.eraseIdx i) (F ++ [d]) L wa wk (ps.eraseIdx i) a' c' bm N := ⟨by rw [hfl1]; exact X5.out.set1 _, (((N4.out.wants.below BA.out).kept K5.out (fun b hb e => by have := (hfo b e).1; omega)).kept hk6 (fun b hb e => by omega)).rd, by rw [hfl1]; exact ownsRow_kept O6.out hk6 (fun b hb e => hfar b hb e), ((N4.out.held.below BA.out).kept K5.out (fun e => (hfo _ e).2 rfl) (fun x hx => (N4.out.failed.lt x hx).1)).kept hk6 (by have := N4.out.high; omega) (fun x hx => by omega)⟩
    have hbel : Below B w (w5.setCell ⟨fb, 1, none⟩ (.slice a' (F.length + 1) c')) := (((HB4.out.mono hB).trans (BA.out.mono hsz4)).trans (K5.out.below (B := B) (by have := BA.out.size; omega) (fun j hj e => by have := (N4.out.failed.lt j e).1; omega))).setCell hB _
    have HEND := hide hend
    have HBEL := hide hbel
    clear hend hbel hk6 hfar O6 x0 x1 x2 x3 x4 x5 y0 y1 y2 y3 y4 y5
    generalize w5.setCell ⟨fb, 1, none⟩ (.slice a' (F.length + 1) c') = W6 at *
    go_wp2_with fail
    go_ret
    exact ⟨rfl, ⟨a', c', HEND.out⟩, HBEL.out⟩
end Go.Proofs.YtfamiehfpmjljaaGreatDoor

