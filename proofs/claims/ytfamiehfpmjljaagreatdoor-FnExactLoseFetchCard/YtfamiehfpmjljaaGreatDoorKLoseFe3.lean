/-
  Texts put together: Ints IntsR Asked Missing FetM FetA FetB.
-/
import Derived.Test.YtfamiehfpmjljaaGreatDoorKLoseFe1
import Derived.Test.YtfamiehfpmjljaaGreatDoorKLoseFe2
import Derived.Deep.RegionHeld3
namespace Go.Proofs.YtfamiehfpmjljaaGreatDoor
open Go.RowKit
set_option linter.unusedVariables false

def marks64 (k : Int) (n : Nat) : List Int := (List.range n).map fun (i : Nat) => k + i
theorem marks64_length (k : Int) (n : Nat) : (marks64 k n).length = n := by simp [marks64]
theorem marks64_getD (k : Int) (n i : Nat) (h : i < n) : (marks64 k n).getD i 0 = k + i := by simp [marks64, List.getD_eq_getElem?_getD, h]

theorem Tryz.infoI64 : (Tryz.prog.info? 2).map (fun i => (i.zero, i.size, i.bytes)) = some (some (.int .i64 0), 1, 8) := by kernel_rfl

set_option maxHeartbeats 400000 in
theorem eqInt64S_any (a b : Option Addr) (ca cb : Nat) (xs ys : List Int) (w : World) (ha : Reads .i64 w a xs) (hb : Reads .i64 w b ys) (hl : xs.length ≤ 1048576) (hl2 : ys.length ≤ 1048576) :
    Calls Tryz.prog 78 #[.slice a xs.length ca, .slice b ys.length cb] w fun e w' => e = .returned (.bool (xs == ys)) ∧ ∃ n, w' = w.drewN n := by
  by_cases hlen : xs.length = ys.length
  · have hne : ((xs.length : Int) != (ys.length : Int)) = false := by simp [hlen]
    go_enter Tryz.func78, Tryz.ntmps78
    go_wp2
    go_loopw [5] (fun i wr => ∃ k : Nat, k ≤ xs.length ∧ i = .int .i64 k ∧ xs.take k = ys.take k ∧ ∃ n, wr = w.drewN n) (fun i _ => xs.length - (intOf i).toNat)
    case atStart => exact ⟨0, Nat.zero_le _, rfl, rfl, 0, rfl⟩
    case round =>
      obtain ⟨k, hk, rfl, htk, n, rfl⟩ := hrel
      have HT := hide htk
      clear htk
      by_cases hlt : k < xs.length
      · obtain ⟨b1, o1, rfl, hb1, hc1⟩ := ha (by intro e; simp [e] at hlt)
        obtain ⟨b2, o2, rfl, hb2, hc2⟩ := hb (by intro e; rw [e] at hlen; simp at hlen; simp [hlen] at hlt)
        obtain ⟨x, hx⟩ : ∃ x, x = xs.getD k 0 := ⟨_, rfl⟩
        obtain ⟨y, hy⟩ : ∃ y, y = ys.getD k 0 := ⟨_, rfl⟩
        have c1 : w.cell? ⟨b1, o1 + k, none⟩ = some (.int .i64 x) := by rw [hx]; exact hc1 k hlt
        have c2 : w.cell? ⟨b2, o2 + k, none⟩ = some (.int .i64 y) := by rw [hy]; exact hc2 k (by omega)
        have HX := hide hx
        have HY := hide hy
        clear hc1 hc2 ha hb hx hy
        have hk2 : k < ys.length := by omega
        by_cases heq : x = y
        · have hb : (x != y) = false := by simp [heq]
          have HE := hide heq
          clear heq
          go_wp2
          go_quiet (fail)
          go_wp2
          go_roundw
          case rel => exact ⟨k + 1, by omega, by go_num, take_eq_step hlt hk2 HT.out (by rw [← HX.out, ← HY.out]; exact HE.out), _, rfl⟩
          case measure => simp [intOf]; omega
        · have hb : (x != y) = true := by simp [heq]
          go_wp2
          go_quiet (fail)
          go_wp2
          go_ret
          exact ⟨ret_bool (ne_of_getD (k := k) (by rw [← HX.out, ← HY.out]; exact heq)).symm, _, World.drewN_drewN _ _ _⟩
      · go_wp2
        go_ret
        exact ⟨ret_bool (eq_of_take (k := k) (by omega) (by omega) HT.out).symm, _, rfl⟩
  · have hne : ((xs.length : Int) != (ys.length : Int)) = true := by simp; omega
    go_enter Tryz.func78, Tryz.ntmps78
    go_wp2
    go_ret
    have e : (xs == ys) = false := by simp; intro e; exact hlen (by rw [e])
    exact ⟨ret_bool e.symm, 0, rfl⟩



theorem eqInt64S_b (a b : Option Addr) (ca cb : Nat) (xs : List Int) (w : World) (ha : Reads .i64 w a xs) (hb : Reads .i64 w b xs) (hl : xs.length ≤ 1048576) :
    Calls Tryz.prog 78 #[.slice a xs.length ca, .slice b xs.length cb] w fun e w' => e = .returned (.bool true) ∧ Below w.heap.size w w' := by
  refine (eqInt64S_any a b ca cb xs xs w ha hb hl hl).mono ?_
  rintro e w' ⟨rfl, m, rfl⟩
  exact ⟨ret_bool (by simp), below_drewN (Below.refl _ _) m⟩

set_option maxHeartbeats 400000 in
theorem markInt64S_any (a : Option Addr) (cap : Nat) (zs : List Int) (k : Int) (w : World) (h : Own .i64 w a zs) (hk0 : 0 ≤ k) (hk1 : k ≤ 1099511627776) (hl : zs.length ≤ 1099511627776) :
    Calls Tryz.prog 81 #[.slice a zs.length cap, .int .i64 k] w fun e w' => e = .returned (.int .i64 (k + zs.length)) ∧ Own .i64 w' a (marks64 k zs.length) ∧ Kept (blkOf a) w w' ∧ SameShape w w' := by
  go_enter Tryz.func81, Tryz.ntmps81
  go_wp2
  go_loopw [1, 5] (fun q i wr => ∃ j : Nat, j ≤ zs.length ∧ i = .int .i64 j ∧ q = .int .i64 (k + j) ∧ (zs ≠ [] → ∃ b off, a = some ⟨b, off, none⟩ ∧ b < wr.heap.size ∧ ∀ t, t < zs.length → wr.cell? ⟨b, off + t, none⟩ = some (.int .i64 (if t < j then k + t else zs.getD t 0)) ∧ wr.frozen? ⟨b, off + t, none⟩ = false) ∧ Kept (blkOf a) w wr ∧ SameShape w wr) (fun _ i _ => zs.length - (intOf i).toNat)
  case atStart => exact ⟨0, Nat.zero_le _, rfl, by simp, fun hz => by simpa using h hz, Kept.refl _ _, SameShape.refl _⟩
  case round =>
    obtain ⟨j, hj, rfl, rfl, hown, hkept, hss⟩ := hrel
    have HSS := hide hss
    clear hss
    by_cases hlt : j < zs.length
    · obtain ⟨b, off, rfl, hb, hc⟩ := hown (by intro e; simp [e] at hlt)
      have hc0 := (hc j hlt).1
      rw [if_neg (by omega)] at hc0
      generalize zs.getD j 0 = z at hc0
      have hf := (hc j hlt).2
      have HC := hide hc
      have HK := hide hkept
      have HH := hide h
      clear hc hkept hown h
      go_wp2
      go_roundw
      case rel => exact ⟨j + 1, by omega, by go_num, by go_num, fun _ => ⟨b, off, rfl, by simpa [World.setCell] using hb, own_step HC.out hlt (by go_num)⟩, HK.out.setCell (p := ⟨b, off + j, none⟩) (fun _ => rfl) _, HSS.out.setCell _ _ _⟩
      case measure => simp [intOf]; omega
    · have hje : j = zs.length := by omega
      go_wp2
      go_ret
      refine ⟨ret_int (by rw [hje]), fun hz => ?_, hkept, HSS.out⟩
      obtain ⟨b, off, e, hb, hc⟩ := hown (by intro e; simp [e, marks64] at hz)
      exact ⟨b, off, e, hb, fun t ht => by rw [marks64_length] at ht; rw [marks64_getD _ _ _ ht]; have := hc t ht; rwa [if_pos (by omega)] at this⟩

set_option maxHeartbeats 400000 in
theorem heldInt64S_any (a : Option Addr) (cap n : Nat) (k : Int) (w : World) (h : Reads .i64 w a (marks64 k n)) (hk0 : 0 ≤ k) (hk1 : k ≤ 1099511627776) (hl : n ≤ 1099511627776) :
    Calls Tryz.prog 114 #[.slice a n cap, .int .i64 k] w fun e w' => e = .returned (.int .i64 (k + n)) ∧ w' = w := by
  go_enter Tryz.func114, Tryz.ntmps114
  go_wp2
  go_loop [1, 5] (fun q i => ∃ j : Nat, j ≤ n ∧ i = .int .i64 j ∧ q = .int .i64 (k + j)) (fun _ i => n - (intOf i).toNat)
  case atStart => exact ⟨0, Nat.zero_le _, rfl, by simp⟩
  case round =>
    obtain ⟨j, hj, rfl, rfl⟩ := hrel
    by_cases hlt : j < n
    · obtain ⟨b, off, rfl, hb, hc⟩ := h (by intro e; have := marks64_length k n; rw [e] at this; simp at this; omega)
      have hc0 := hc j (by rw [marks64_length]; exact hlt)
      rw [marks64_getD _ _ _ hlt] at hc0
      have HC := hide hc
      clear hc h
      go_wp2
      go_round
      case rel => exact ⟨j + 1, by omega, by go_num, by go_num⟩
      case measure => simp [intOf]; omega
    · have hje : j = n := by omega
      subst hje
      go_wp2
      go_ret
      exact ⟨rfl, rfl⟩


set_option maxHeartbeats 400000 in
theorem toInt64S_any (a : Option Addr) (cap : Nat) (zs : List Int) (w : World) (h : Reads .i64 w a zs) (hl : zs.length ≤ 1048576) :
    Calls Tryz.prog 75 #[.slice a zs.length cap] w fun e w' => e = .returned (.slice (some ⟨w.heap.size, 0, none⟩) zs.length zs.length) ∧
      w'.rowIs w.heap.size 2 zs.length (fun i => .int .i64 (zs.getD i 0)) ∧ Below w.heap.size w w' := by
  have hmk := run_make_row' (P := Tryz.prog) 25 2 (.int .i64 0) 8 Tryz.underlying25 Tryz.infoI64 rfl .i64 .i64 zs.length (by omega) (by omega)
  go_enter Tryz.func75, Tryz.ntmps75
  go_wp2
  go_loopw [4] (fun i wr => ∃ k : Nat, k ≤ zs.length ∧ i = .int .i64 k ∧ wr.rowIs w.heap.size 2 zs.length (fun j => if j < k then .int .i64 (zs.getD j 0) else .int .i64 0) ∧ Below w.heap.size w wr) (fun i _ => zs.length - (intOf i).toNat)
  case atStart => exact ⟨0, Nat.zero_le _, rfl, (World.rowIs_made w _ _ _).congr (by simp), (Below.refl _ _).alloc (Nat.le_refl _) _⟩
  case round =>
    obtain ⟨k, hk, rfl, hrow, hbel⟩ := hrel
    by_cases hlt : k < zs.length
    · obtain ⟨b, off, rfl, hb, hc⟩ := h (by intro e; simp [e] at hlt)
      obtain ⟨z, hz⟩ : ∃ z, z = zs.getD k 0 := ⟨_, rfl⟩
      have hc1 : wr.cell? ⟨b, off + k, none⟩ = some (.int .i64 z) := (hbel.cell (p := ⟨b, off + k, none⟩) hb).trans (by rw [hz]; exact hc k hlt)
      have hf : wr.frozen? ⟨w.heap.size, k, none⟩ = false := hrow.frozen k
      have hc0 : wr.cell? ⟨w.heap.size, k, none⟩ = some (.int .i64 0) := by rw [hrow.cell hlt, if_neg (by omega)]
      have HZ := hide hz
      clear hz
      have HR := hide hrow
      have HB := hide hbel
      have HC := hide hc
      clear hrow hbel hc h
      go_wp2
      go_roundw
      case rel => exact ⟨k + 1, by omega, by go_num, by rw [HZ.out]; exact row_step (f := fun j => .int .i64 (zs.getD j 0)) (z := fun _ => .int .i64 0) HR.out, HB.out.setCell (Nat.le_refl _) _⟩
      case measure => simp [intOf]; omega
    · go_wp2
      go_ret
      exact ⟨rfl, hrow.congr (fun i hi => by rw [if_pos (by omega)]), hbel⟩


end Go.Proofs.YtfamiehfpmjljaaGreatDoor

namespace Go.Proofs.YtfamiehfpmjljaaGreatDoor
open Go.RowKit
set_option linter.unusedVariables false

def G1 (B T : Nat) (w : World) (v : Value) (ds : List Int) : Prop :=
  w.ownsRow B 2 1 v ds.length (ds.map (Value.int .i64)) ∧ ∀ b, v.ownBlock = some b → b < T
theorem G1.kept {S : Nat → Prop} {B T : Nat} {w w' : World} {v : Value} {ds : List Int} (h : G1 B T w v ds) (hk : Kept S w w') (hS : ∀ b, B ≤ b → b < T → ¬ S b) : G1 B T w' v ds :=
  ⟨ownsRow_kept h.1 hk (fun b hb => hS b (h.1.lt b hb).1 (h.2 b hb)), h.2⟩
theorem G1.mk {B : Nat} {w : World} {v : Value} {ds : List Int} {n : Nat} (h : w.ownsRow B 2 1 v n (ds.map (Value.int .i64))) (hn : n = ds.length) : G1 B w.heap.size w v ds := by
  subst hn
  exact ⟨h, fun b hb => (h.lt b hb).2⟩
theorem G1.own {B T : Nat} {w : World} {a : Option Addr} {c : Nat} {ds : List Int} (h : G1 B T w (.slice a ds.length c) ds) : Own .i64 w a ds := ownsRow_own h.1 rfl
theorem G1.mark {B T : Nat} {w w' : World} {a : Option Addr} {c : Nat} {ds ys : List Int} (h : G1 B T w (.slice a ds.length c) ds) (hl : ys.length = ds.length) (ho : Own .i64 w' a ys) (hs : SameShape w w') : G1 B T w' (.slice a ds.length c) ys := by
  obtain ⟨h1, h2⟩ := h
  refine ⟨?_, h2⟩
  rw [hl]
  rcases h1.2 with ⟨h', h0⟩ | ⟨g, cap, cur, h', hb, hh, hnc, hcm, hcs, htake⟩
  · have e : ys = [] := List.eq_nil_of_length_eq_zero (by omega)
    have e2 : ds = [] := List.eq_nil_of_length_eq_zero h0
    subst e e2
    rw [h']
    exact World.ownsRow_nil _ _ _ _
  · simp only [Value.slice.injEq, true_and] at h'
    obtain ⟨rfl, rfl⟩ := h'
    refine own_back h1 hs (by simp [hl]) (fun t ht => ?_)
    obtain ⟨b, off, e1, hb, hc⟩ := ho (by intro e; rw [e] at hl; simp at hl; omega)
    simp only [Option.some.injEq, Addr.mk.injEq, and_true] at e1
    obtain ⟨rfl, rfl⟩ := e1
    have := (hc t (by omega)).1
    rw [Nat.zero_add] at this
    rw [this]
    have ht2 : t < ys.length := by omega
    simp [List.getD_eq_getElem?_getD, ht2]




end Go.Proofs.YtfamiehfpmjljaaGreatDoor

namespace Go.Proofs.YtfamiehfpmjljaaGreatDoor
open Go.RowKit Go.Maps
set_option linter.unusedVariables false

def digFault (zs : List Int) (i : Nat) : Option Int := if 0 ≤ zs.getD i 0 ∧ zs.getD i 0 ≤ 4294967295 then none else some 3
def asked (zs : List Int) : Int := if 3 < zs.length then 2 else firstBad (digFault zs) 0 zs.length
def both (F : Int) (zs : List Int) : Int := if F = 0 then asked zs else F
end Go.Proofs.YtfamiehfpmjljaaGreatDoor

namespace Go.Proofs.YtfamiehfpmjljaaGreatDoor
open Go.RowKit Go.Maps
set_option linter.unusedVariables false

theorem first_at {D : Nat → Int} {z : Int} : ∀ {n : Nat}, (∃ i, i < n ∧ D i = z) → ∃ i, i < n ∧ D i = z ∧ ∀ j, j < i → D j ≠ z
  | 0, ⟨i, hi, _⟩ => by omega
  | n + 1, ⟨i, hi, e⟩ => by
    by_cases h : ∃ i, i < n ∧ D i = z
    · obtain ⟨j, h1, h2, h3⟩ := first_at h
      exact ⟨j, by omega, h2, h3⟩
    · have hin : i = n := by
        rcases Nat.lt_or_ge i n with h' | h'
        · exact absurd ⟨i, h', e⟩ h
        · omega
      subst hin
      exact ⟨i, by omega, e, fun j hj ej => h ⟨j, hj, ej⟩⟩

theorem contains_upto {ms : List Int} {z : Int} (h : ∀ j, j < ms.length → ms.getD j 0 ≠ z) : ms.contains z = false := by
  simp only [List.contains_eq_mem, decide_eq_false_iff_not]
  intro hm
  obtain ⟨j, hj, e⟩ := List.mem_iff_getElem.1 hm
  exact h j hj (by simp [List.getD_eq_getElem?_getD, hj, e])
theorem contains_hit {ms : List Int} {z : Int} {j : Nat} (hj : j < ms.length) (h : ms.getD j 0 = z) : ms.contains z = true := by
  simp only [List.contains_eq_mem, decide_eq_true_eq]
  have : ms.getD j 0 = ms[j] := by simp [List.getD_eq_getElem?_getD, hj]
  rw [← h, this]
  exact List.getElem_mem hj

set_option maxRecDepth 100000 in
set_option maxHeartbeats 800000 in
theorem l2Among_any (a : Option Addr) (c : Nat) (ms : List Int) (z : Int) (w : World) (h : Reads .i64 w a ms) (hl : ms.length ≤ 1048576) :
    Calls Tryz.prog 66 #[.slice a ms.length c, .int .i64 z] w fun e w' => e = .returned (.bool (ms.contains z)) ∧ w' = w := by
  have HA := hide h
  clear h
  generalize hr : ms.contains z = r
  have HR := hide hr
  clear hr
  go_enter Tryz.func66, Tryz.ntmps66
  go_wp2
  go_loop [5] (fun i => ∃ k : Nat, k ≤ ms.length ∧ i = .int .i64 k ∧ ∀ j, j < k → ms.getD j 0 ≠ z) (fun i => ms.length - (intOf i).toNat)
  case atStart => exact ⟨0, Nat.zero_le _, rfl, fun j hj => absurd hj (by omega)⟩
  case round =>
    obtain ⟨k, hk, rfl, hF⟩ := hrel
    have HF := hide hF
    clear hF
    by_cases hlt : k < ms.length
    · obtain ⟨b, off, rfl, hb1, hc⟩ := HA.out (by intro e; simp [e] at hlt)
      have hc1 := hc k hlt
      generalize hy : ms.getD k 0 = y at hc1
      have HY := hide hy
      clear hy hc
      by_cases e : y = z
      · have e' : (y == z) = true := by simpa using e
        have HE := hide e
        clear e
        go_wp2
        go_ret
        exact ⟨ret_bool (by rw [← HR.out]; exact (contains_hit hlt (HY.out.trans HE.out)).symm), rfl⟩
      · have e' : (y == z) = false := by simpa using e
        go_wp2
        go_round
        case rel => exact ⟨k + 1, by omega, by go_num, fun j hj => by
          by_cases ej : j = k
          · subst ej; rw [HY.out]; exact e
          · exact HF.out j (by omega)⟩
        case measure => simp [intOf]; omega
    · go_wp2
      go_ret
      exact ⟨ret_bool (by rw [← HR.out]; exact (contains_upto (fun j hj => HF.out j (by omega))).symm), rfl⟩

set_option maxRecDepth 100000 in
set_option maxHeartbeats 800000 in
theorem slIndex_any (a : Option Addr) (c : Nat) (ms : List Int) (z : Int) (w : World) (h : Reads .i64 w a ms) (hl : ms.length ≤ 1048576) :
    Calls Tryz.prog 106 #[.slice a ms.length c, .int .i64 z] w fun e w' => (∃ i : Int, e = .returned (.int .i64 i) ∧ decide (0 ≤ i) = ms.contains z ∧ -1 ≤ i ∧ i ≤ 1048576) ∧ w' = w := by
  have HA := hide h
  clear h
  generalize hr : ms.contains z = r
  have HR := hide hr
  clear hr
  go_enter Tryz.func106, Tryz.ntmps106
  go_wp2
  go_loop [5, 8] (fun _ i => ∃ k : Nat, k ≤ ms.length ∧ i = .int .i64 k ∧ ∀ j, j < k → ms.getD j 0 ≠ z) (fun _ i => ms.length - (intOf i).toNat)
  case atStart => exact ⟨0, Nat.zero_le _, rfl, fun j hj => absurd hj (by omega)⟩
  case round =>
    obtain ⟨k, hk, rfl, hF⟩ := hrel
    have HF := hide hF
    clear hF
    by_cases hlt : k < ms.length
    · obtain ⟨b, off, rfl, hb1, hc⟩ := HA.out (by intro e; simp [e] at hlt)
      have hc1 := hc k hlt
      generalize hy : ms.getD k 0 = y at hc1
      have HY := hide hy
      clear hy hc
      by_cases e : y = z
      · have e' : (z == y) = true := by simpa using e.symm
        have HE := hide e
        clear e
        go_wp2
        go_ret
        exact ⟨⟨_, rfl, by rw [← HR.out, contains_hit hlt (HY.out.trans HE.out)]; simp, by omega, by omega⟩, rfl⟩
      · have e' : (z == y) = false := by simpa using fun h => e h.symm
        go_wp2
        go_round
        case rel => exact ⟨k + 1, by omega, by go_num, fun j hj => by
          by_cases ej : j = k
          · subst ej; rw [HY.out]; exact e
          · exact HF.out j (by omega)⟩
        case measure => simp [intOf]; omega
    · go_wp2
      go_ret
      exact ⟨⟨_, rfl, by rw [← HR.out, contains_upto (fun j hj => HF.out j (by omega))]; simp, by omega, by omega⟩, rfl⟩

set_option maxRecDepth 100000 in
set_option maxHeartbeats 800000 in
theorem slContains_any (a : Option Addr) (c : Nat) (ms : List Int) (z : Int) (w : World) (h : Reads .i64 w a ms) (hl : ms.length ≤ 1048576) :
    Calls Tryz.prog 69 #[.slice a ms.length c, .int .i64 z] w fun e w' => e = .returned (.bool (ms.contains z)) ∧ w' = w := by
  have HC := hide (slIndex_any a c ms z w h hl)
  clear h
  generalize ms.contains z = r at *
  go_enter Tryz.func69, Tryz.ntmps69
  go_wp2_with fail
  refine HC.out.mono ?_
  rintro e w1 ⟨⟨i, rfl, hi, h1, h2⟩, rfl⟩
  subst hi
  go_wp2_with fail
  go_ret
  exact ⟨rfl, rfl⟩


end Go.Proofs.YtfamiehfpmjljaaGreatDoor

namespace Go.Proofs.YtfamiehfpmjljaaGreatDoor
open Go.RowKit Go.Maps
set_option linter.unusedVariables false

def RdW (w : World) (a : Option Addr) (W : List Wn) : Prop :=
  W ≠ [] → ∃ b off, a = some ⟨b, off, none⟩ ∧ b < w.heap.size ∧ ∀ i, i < W.length → w.cell? ⟨b, off + i * 2, none⟩ = some (.int .i64 (W.getD i (0, 0)).1) ∧ w.cell? ⟨b, off + i * 2 + 1, none⟩ = some (.int .i64 (W.getD i (0, 0)).2)
theorem RdW.kept {S : Nat → Prop} {w w' : World} {a : Option Addr} {W : List Wn} (h : RdW w a W) (hk : Kept S w w') (hn : W ≠ [] → ∀ x, a = some x → ¬ S x.block) : RdW w' a W := by
  intro hz
  obtain ⟨b, off, rfl, hb, hc⟩ := h hz
  have hS := hn hz ⟨b, off, none⟩ rfl
  exact ⟨b, off, rfl, Nat.lt_of_lt_of_le hb hk.size, fun i hi => ⟨(hk.cell (p := ⟨b, off + i * 2, none⟩) hb hS).trans (hc i hi).1, (hk.cell (p := ⟨b, off + i * 2 + 1, none⟩) hb hS).trans (hc i hi).2⟩⟩
theorem RdW.below {w w' : World} {a : Option Addr} {W : List Wn} (h : RdW w a W) (hk : Below w.heap.size w w') : RdW w' a W :=
  h.kept (S := fun _ => False) (Kept.of_below hk) (fun _ _ _ => id)
def ptrV (p : Nat) : Value := .pointer (some ⟨p, 0, none⟩)
def RdP (w : World) (a : Option Addr) (ps : List Nat) (W : List Wn) : Prop :=
  ps.length = W.length ∧ (∀ i, i < W.length → Two w (ps.getD i 0) (.int .i64 (W.getD i (0, 0)).1) (.int .i64 (W.getD i (0, 0)).2)) ∧ (W ≠ [] → ∃ b off, a = some ⟨b, off, none⟩ ∧ b < w.heap.size ∧ ∀ i, i < W.length → w.cell? ⟨b, off + i, none⟩ = some (ptrV (ps.getD i 0)))
theorem RdP.below {w w' : World} {a : Option Addr} {ps : List Nat} {W : List Wn} (h : RdP w a ps W) (hk : Below w.heap.size w w') : RdP w' a ps W := by
  obtain ⟨h1, h2, h3⟩ := h
  refine ⟨h1, fun i hi => (h2 i hi).below hk, fun hz => ?_⟩
  obtain ⟨b, off, rfl, hb, hc⟩ := h3 hz
  exact ⟨b, off, rfl, Nat.lt_of_lt_of_le hb hk.size, fun i hi => (hk.cell (p := ⟨b, off + i, none⟩) hb).trans (hc i hi)⟩
theorem RdP.nil (w : World) (a : Option Addr) : RdP w a [] [] := ⟨rfl, fun i hi => absurd hi (by simp), fun h => absurd rfl h⟩
structure OwnP (B : Nat) (w : World) (v : Value) (ps : List Nat) (W : List Wn) : Prop where
  row : w.ownsRow B 123 1 v W.length (ps.map ptrV)
  len : ps.length = W.length
  box : ∀ i, i < W.length → B ≤ ps.getD i 0 ∧ Box w (ps.getD i 0) (.int .i64 (W.getD i (0, 0)).1) (.int .i64 (W.getD i (0, 0)).2)
  one : ps.Nodup
theorem OwnP.nil (B : Nat) (w : World) : OwnP B w (.slice none 0 0) [] [] := ⟨World.ownsRow_nil _ _ _ _, rfl, fun i hi => absurd hi (by simp), List.nodup_nil⟩
theorem OwnP.rd {B : Nat} {w : World} {a : Option Addr} {n c : Nat} {ps : List Nat} {W : List Wn} (h : OwnP B w (.slice a n c) ps W) : RdP w a ps W := by
  refine ⟨h.len, fun i hi => (h.box i hi).2.1, fun hz => ?_⟩
  have h0 : 0 < W.length := List.length_pos_iff.2 hz
  have hr := h.row
  rcases hr.2 with ⟨h', hh⟩ | ⟨g, cap, cur, h', hb, hh, hnc, hcm, hcs, htake⟩
  · omega
  · have hl : n = W.length ∧ a = some ⟨g, 0, none⟩ := by simp only [Value.slice.injEq] at h'; exact ⟨h'.2.1, h'.1⟩
    obtain ⟨rfl, rfl⟩ := hl
    refine ⟨g, 0, rfl, (hr.lt g rfl).2, fun i hi => ?_⟩
    have := World.ownsRow.cellAt hr i (by omega)
    have hlp : i < ps.length := by rw [h.len]; exact hi
    simpa [Nat.zero_add, List.getD_eq_getElem?_getD, hlp] using this
theorem OwnP.kept {S : Nat → Prop} {B : Nat} {w w' : World} {v : Value} {ps : List Nat} {W : List Wn} (h : OwnP B w v ps W) (hk : Kept S w w') (hS : ∀ b, B ≤ b → ¬ S b) : OwnP B w' v ps W :=
  ⟨ownsRow_kept h.row hk (fun b hb => hS b (h.row.lt b hb).1), h.len, fun i hi => ⟨(h.box i hi).1, (h.box i hi).2.kept hk (hS _ (h.box i hi).1)⟩, h.one⟩
theorem OwnP.below {B : Nat} {w w' : World} {v : Value} {ps : List Nat} {W : List Wn} (h : OwnP B w v ps W) (hk : Below w.heap.size w w') : OwnP B w' v ps W :=
  h.kept (S := fun _ => False) (Kept.of_below hk) (fun _ _ => id)
theorem row_box {w : World} {B p : Nat} {v : Value} {ps : List Nat} {n : Nat} {d t : Int} (h : w.ownsRow B 123 1 v n (ps.map ptrV)) (hn : n = ps.length) (hp : Two w p (.int .i64 d) (.int .i64 t)) : ∀ b, v.ownBlock = some b → 0 < n → p ≠ b := by
  rintro b hb h0 rfl
  rcases h.2 with ⟨h', hh⟩ | ⟨g, cap, cur, rfl, hg, hh, hnc, hcm, hcs, htake⟩
  · omega
  · simp only [Value.ownBlock, Option.some.injEq] at hb
    subst hb
    have := World.ownsRow.cellAt h 0 (by omega)
    have hlp : 0 < ps.length := by omega
    rw [hp.1] at this
    simp [ptrV, List.getElem?_eq_getElem hlp] at this
theorem getD_snoc {α : Type} {l : List α} {x z : α} {i : Nat} (hi : i < l.length) : (l ++ [x]).getD i z = l.getD i z := by simp [List.getD_eq_getElem?_getD, List.getElem?_append_left hi]
theorem getD_last {α : Type} {l : List α} {x z : α} : (l ++ [x]).getD l.length z = x := by simp [List.getD_eq_getElem?_getD]
theorem OwnP.push {B : Nat} {w w2 : World} {v v' : Value} {ps : List Nat} {W : List Wn} {p : Nat} {d t : Int} (h : OwnP B w v ps W) (hb : Box w p (.int .i64 d) (.int .i64 t)) (hB : B ≤ p) (hnew : ∀ i, i < W.length → ps.getD i 0 ≠ p) (hrow : w2.ownsRow B 123 1 v' (W.length + 1) (ps.map ptrV ++ [ptrV p])) (hk : Kept (fun b => v.ownBlock = some b) w w2) (hv : ∀ b, v.ownBlock = some b → p ≠ b) : OwnP B w2 v' (ps ++ [p]) (W ++ [(d, t)]) := by
  have hpos : ∀ b, v.ownBlock = some b → ∀ i, i < W.length → ps.getD i 0 ≠ b := fun b hb' i hi => row_box h.row h.len.symm (h.box i hi).2.1 b hb' (by omega)
  refine ⟨by simpa using hrow, by simp [h.len], fun i hi => ?_, ?_⟩
  · by_cases e : i < W.length
    · rw [getD_snoc (by rw [h.len]; exact e), getD_snoc e]
      exact ⟨(h.box i e).1, (h.box i e).2.kept hk (fun hS => hpos _ hS i e rfl)⟩
    · have hi2 : i = W.length := by simp at hi; omega
      subst hi2
      rw [getD_last]
      rw [show W.length = ps.length from h.len.symm, getD_last]
      exact ⟨hB, hb.kept hk (fun hS => hv _ hS rfl)⟩
  · rw [List.nodup_append]
    refine ⟨h.one, by simp, fun x hx y hy e => ?_⟩
    simp at hy
    subst hy
    subst e
    obtain ⟨i, hi, e⟩ := List.getElem_of_mem hx
    exact hnew i (by rw [← h.len]; exact hi) (by rw [List.getD_eq_getElem?_getD, List.getElem?_eq_getElem hi]; exact e)
theorem isDg_any (n : Int) (w : World) : Calls Tryz.prog 59 #[.int .i64 n] w fun e w' => e = .returned (.bool (decide (okD n))) ∧ w' = w := by
  by_cases h0 : 0 ≤ n
  · by_cases h1 : n ≤ 4294967295
    · have hd : decide (okD n) = true := decide_eq_true ⟨h0, h1⟩
      rw [hd]
      go_enter Tryz.func59, Tryz.ntmps59
      go_wp2
      go_ret
      exact ⟨ret_bool (by simp <;> omega), rfl⟩
    · have hd : decide (okD n) = false := decide_eq_false (fun h => h1 h.2)
      rw [hd]
      go_enter Tryz.func59, Tryz.ntmps59
      go_wp2
      go_ret
      exact ⟨ret_bool (by simp <;> omega), rfl⟩
  · have hd : decide (okD n) = false := decide_eq_false (fun h => h0 h.1)
    rw [hd]
    have hneg : n < 0 := by omega
    go_enter Tryz.func59, Tryz.ntmps59
    go_wp2
    go_ret
    exact ⟨ret_bool (by simp <;> omega), rfl⟩
set_option maxRecDepth 100000 in
set_option maxHeartbeats 800000 in
theorem wanted_yes (fb : Nat) (a : Option Addr) (c i : Nat) (ps : List Nat) (W : List Wn) (d : Int) (w : World) (h0 : w.cell? ⟨fb, 0, none⟩ = some (.slice a W.length c)) (h : RdP w a ps W) (hl : W.length ≤ 1048576) (hi : i < W.length) (hd : (W.getD i (0, 0)).1 = d) (hf : ∀ j, j < i → (W.getD j (0, 0)).1 ≠ d) (p : Nat) (hp : ps.getD i 0 = p) :
    Calls Tryz.prog 87 #[.pointer (some ⟨fb, 0, none⟩), .int .i64 d] w fun e w' => e = .returned (.pointer (some ⟨p, 0, none⟩)) ∧ w' = w := by
  obtain ⟨h1, h2, h3⟩ := h
  obtain ⟨b1, o1, rfl, hb1, hc1⟩ := h3 (by intro e; simp [e] at hi)
  have H2 := hide h2
  have HC := hide hc1
  have HF := hide hf
  have HD := hide hd
  have HPP := hide hp
  clear h1 h2 h3 hc1 hf hd hp
  go_enter Tryz.func87, Tryz.ntmps87
  go_wp2
  go_loop [6, 12] (fun _ q => ∃ k : Nat, k ≤ i ∧ q = .int .i64 k) (fun _ q => W.length - (intOf q).toNat)
  case atStart => exact ⟨0, Nat.zero_le _, rfl⟩
  case round =>
    obtain ⟨k, hk, rfl⟩ := hrel
    have hlt : k < W.length := by omega
    have c1 := HC.out k hlt
    obtain ⟨e1, -⟩ := H2.out k hlt
    by_cases e : k = i
    · subst e
      rw [HD.out] at e1
      rw [HPP.out] at c1 e1
      unfold ptrV at *
      go_wp2
      go_ret
      exact ⟨rfl, rfl⟩
    · have hne : ((W.getD k (0, 0)).1 == d) = false := by simpa using HF.out k (by omega)
      generalize (W.getD k (0, 0)).1 = dd at e1 hne
      generalize ps.getD k 0 = p' at *
      unfold ptrV at *
      go_wp2
      go_round
      case rel => exact ⟨k + 1, by omega, by go_num⟩
      case measure => simp [intOf]; omega
set_option maxRecDepth 100000 in
set_option maxHeartbeats 800000 in
theorem wanted_no (fb : Nat) (a : Option Addr) (c : Nat) (ps : List Nat) (W : List Wn) (d : Int) (w : World) (h0 : w.cell? ⟨fb, 0, none⟩ = some (.slice a W.length c)) (h : RdP w a ps W) (hl : W.length ≤ 1048576) (hf : ∀ j, j < W.length → (W.getD j (0, 0)).1 ≠ d) :
    Calls Tryz.prog 87 #[.pointer (some ⟨fb, 0, none⟩), .int .i64 d] w fun e w' => e = .returned (.pointer none) ∧ w' = w := by
  obtain ⟨h1, h2, h3⟩ := h
  have H2 := hide h2
  have H3 := hide h3
  have HF := hide hf
  clear h1 h2 h3 hf
  go_enter Tryz.func87, Tryz.ntmps87
  go_wp2
  go_loop [6, 12] (fun _ q => ∃ k : Nat, k ≤ W.length ∧ q = .int .i64 k) (fun _ q => W.length - (intOf q).toNat)
  case atStart => exact ⟨0, Nat.zero_le _, rfl⟩
  case round =>
    obtain ⟨k, hk, rfl⟩ := hrel
    by_cases hlt : k < W.length
    · obtain ⟨b1, o1, rfl, hb1, hc1⟩ := H3.out (by intro e; simp [e] at hlt)
      have c1 := hc1 k hlt
      clear hc1
      obtain ⟨e1, -⟩ := H2.out k hlt
      have hne : ((W.getD k (0, 0)).1 == d) = false := by simpa using HF.out k (by omega)
      generalize (W.getD k (0, 0)).1 = dd at e1 hne
      generalize ps.getD k 0 = p' at *
      unfold ptrV at *
      go_wp2
      go_round
      case rel => exact ⟨k + 1, by omega, by go_num⟩
      case measure => simp [intOf]; omega
    · go_wp2
      go_ret
      exact ⟨rfl, rfl⟩
end Go.Proofs.YtfamiehfpmjljaaGreatDoor

namespace Go.Proofs.YtfamiehfpmjljaaGreatDoor
open Go.RowKit Go.Maps
set_option linter.unusedVariables false

theorem mem_keys {W : List Wn} {d : Int} : d ∈ W.map Prod.fst ↔ ∃ i, i < W.length ∧ (W.getD i (0, 0)).1 = d := by
  constructor
  · intro h
    obtain ⟨x, hx, rfl⟩ := List.mem_map.1 h
    obtain ⟨i, hi, rfl⟩ := List.getElem_of_mem hx
    exact ⟨i, hi, by rw [List.getD_eq_getElem?_getD, List.getElem?_eq_getElem hi]; rfl⟩
  · rintro ⟨i, hi, rfl⟩
    exact List.mem_map.2 ⟨_, getD_mem (0, 0) hi, rfl⟩
set_option maxRecDepth 100000 in
set_option maxHeartbeats 1600000 in
theorem knows_any (fb : Nat) (a : Option Addr) (c : Nat) (ps : List Nat) (W : List Wn) (fa : Option Addr) (fc : Nat) (F : List Int) (bm N T : Nat) (L : List Ch) (d : Int) (w : World) (h0 : w.cell? ⟨fb, 0, none⟩ = some (.slice a W.length c)) (h1 : w.cell? ⟨fb, 1, none⟩ = some (.slice fa F.length fc)) (h2 : w.cell? ⟨fb, 2, none⟩ = some (.map (some bm))) (hP : RdP w a ps W) (hF : Reads .i64 w fa F) (hH : Holds w bm N L T) (hW : W.length ≤ 1048576) (hFl : F.length ≤ 1048576) (hwf : (Lit.int .i64 d).wf = true) :
    Calls Tryz.prog 94 #[.pointer (some ⟨fb, 0, none⟩), .int .i64 d] w fun e w' => e = .returned (.bool (decide (d ∈ L.map Prod.fst ∨ d ∈ F ∨ d ∈ W.map Prod.fst))) ∧ Below w.heap.size w w' := by
  have hfb : fb < w.heap.size := World.block_lt_of_cell? w ⟨fb, 0, none⟩ h0
  by_cases hk : d ∈ L.map Prod.fst
  · obtain ⟨⟨d', zs⟩, hm, hd'⟩ := List.mem_map.1 hk
    simp only at hd'
    subst hd'
    obtain ⟨a3, c3, hrun, -⟩ := hH.yes hm hwf 92 Tryz.underlying92
    have HL := hide (hrun true)
    rw [decide_eq_true (Or.inl hk)]
    clear hrun hP hF hH hm hk
    generalize zs.length = zl at *
    go_enter Tryz.func94, Tryz.ntmps94
    go_wp2_with (first | (at_lookup; refine wpList_look rfl _ _ 92 true rfl _ _ _ rfl rfl HL.out ?_; simp only [chv, if_true]) | fail)
    go_ret
    exact ⟨rfl, below_alloc _ _⟩
  · have HL := hide (hH.no hk hwf 92 Tryz.underlying92)
    have B1 := hide (below_alloc w (.cells #[.int .i64 0, .slice none 0 0] 70))
    have HCn := hide (slContains_any fa fc F d _ (hF.below B1.out) hFl)
    have k0 := (B1.out.cell (p := ⟨fb, 0, none⟩) hfb).trans h0
    have k1 := (B1.out.cell (p := ⟨fb, 1, none⟩) hfb).trans h1
    by_cases hf : d ∈ F
    · rw [decide_eq_true (Or.inr (Or.inl hf))]
      rw [show F.contains d = true by simpa using hf] at HCn
      clear hP hF hH hk hf
      go_enter Tryz.func94, Tryz.ntmps94
      go_wp2_with (first | (at_lookup; refine wpList_look rfl _ _ 92 true rfl _ _ _ rfl rfl HL.out ?_) | (go_at_call 69; refine HCn.out.mono ?_; rintro e w1 ⟨rfl, rfl⟩) | fail)
      go_ret
      exact ⟨rfl, B1.out⟩
    · rw [show F.contains d = false by simpa using hf] at HCn
      by_cases hw : d ∈ W.map Prod.fst
      · rw [decide_eq_true (Or.inr (Or.inr hw))]
        obtain ⟨i, hi, hd, hfst⟩ := first_at (D := fun i => (W.getD i (0, 0)).1) (mem_keys.1 hw)
        have HWt := hide (wanted_yes fb a c i ps W d _ k0 (hP.below B1.out) hW hi hd hfst _ rfl)
        generalize ps.getD i 0 = p at *
        clear hP hF hH hk hf hw hd hfst
        go_enter Tryz.func94, Tryz.ntmps94
        go_wp2_with (first | (at_lookup; refine wpList_look rfl _ _ 92 true rfl _ _ _ rfl rfl HL.out ?_) | (go_at_call 69; refine HCn.out.mono ?_; rintro e w1 ⟨rfl, rfl⟩) | (go_at_call 87; refine HWt.out.mono ?_; rintro e w1 ⟨rfl, rfl⟩) | fail)
        go_ret
        exact ⟨rfl, B1.out⟩
      · rw [decide_eq_false (fun h => h.elim hk (fun h => h.elim hf hw))]
        have HWt := hide (wanted_no fb a c ps W d _ k0 (hP.below B1.out) hW (fun j hj e => hw (mem_keys.2 ⟨j, hj, e⟩)))
        clear hP hF hH hk hf hw
        go_enter Tryz.func94, Tryz.ntmps94
        go_wp2_with (first | (at_lookup; refine wpList_look rfl _ _ 92 true rfl _ _ _ rfl rfl HL.out ?_) | (go_at_call 69; refine HCn.out.mono ?_; rintro e w1 ⟨rfl, rfl⟩) | (go_at_call 87; refine HWt.out.mono ?_; rintro e w1 ⟨rfl, rfl⟩) | fail)
        go_ret
        exact ⟨rfl, B1.out⟩
end Go.Proofs.YtfamiehfpmjljaaGreatDoor

namespace Go.Proofs.YtfamiehfpmjljaaGreatDoor
open Go.RowKit Go.Maps
set_option linter.unusedVariables false

def Bx3 (w : World) (b : Nat) (u0 u1 u2 : Value) : Prop := (w.cell? ⟨b, 0, none⟩ = some u0 ∧ w.cell? ⟨b, 1, none⟩ = some u1 ∧ w.cell? ⟨b, 2, none⟩ = some u2) ∧ w.frozen? ⟨b, 0, none⟩ = false ∧ w.frozen? ⟨b, 1, none⟩ = false ∧ w.frozen? ⟨b, 2, none⟩ = false
theorem Bx3.new (w : World) (u0 u1 u2 : Value) (t : TypeId) : Bx3 (w.alloc (.cells #[u0, u1, u2] t)) w.heap.size u0 u1 u2 := ⟨⟨by simp, by simp, by simp⟩, by simp, by simp, by simp⟩
theorem Bx3.lt {w : World} {b : Nat} {u0 u1 u2 : Value} (h : Bx3 w b u0 u1 u2) : b < w.heap.size := World.block_lt_of_cell? w ⟨b, 0, none⟩ h.1.1
theorem Bx3.kept {S : Nat → Prop} {w w' : World} {b : Nat} {u0 u1 u2 : Value} (h : Bx3 w b u0 u1 u2) (hk : Kept S w w') (hn : ¬ S b) : Bx3 w' b u0 u1 u2 :=
  ⟨⟨(hk.cell (p := ⟨b, 0, none⟩) h.lt hn).trans h.1.1, (hk.cell (p := ⟨b, 1, none⟩) h.lt hn).trans h.1.2.1, (hk.cell (p := ⟨b, 2, none⟩) h.lt hn).trans h.1.2.2⟩, (hk.frozen (p := ⟨b, 0, none⟩) h.lt hn).trans h.2.1, (hk.frozen (p := ⟨b, 1, none⟩) h.lt hn).trans h.2.2.1, (hk.frozen (p := ⟨b, 2, none⟩) h.lt hn).trans h.2.2.2⟩
theorem Bx3.below {w w' : World} {b : Nat} {u0 u1 u2 : Value} (h : Bx3 w b u0 u1 u2) (hk : Below w.heap.size w w') : Bx3 w' b u0 u1 u2 := h.kept (S := fun _ => False) (Kept.of_below hk) id
theorem Bx3.set0 {w : World} {b : Nat} {u0 u1 u2 : Value} (h : Bx3 w b u0 u1 u2) (u : Value) : Bx3 (w.setCell ⟨b, 0, none⟩ u) b u u1 u2 := by
  obtain ⟨⟨m0, m1, m2⟩, f0, f1, f2⟩ := h
  refine ⟨⟨cell_set_same m0, ?_, ?_⟩, ?_, ?_, ?_⟩
  · rw [cell_set_other (by simp)]; exact m1
  · rw [cell_set_other (by simp)]; exact m2
  · rw [World.frozen?_setCell]; exact f0
  · rw [World.frozen?_setCell]; exact f1
  · rw [World.frozen?_setCell]; exact f2
theorem Bx3.set1 {w : World} {b : Nat} {u0 u1 u2 : Value} (h : Bx3 w b u0 u1 u2) (u : Value) : Bx3 (w.setCell ⟨b, 1, none⟩ u) b u0 u u2 := by
  obtain ⟨⟨m0, m1, m2⟩, f0, f1, f2⟩ := h
  refine ⟨⟨?_, cell_set_same m1, ?_⟩, ?_, ?_, ?_⟩
  · rw [cell_set_other (by simp)]; exact m0
  · rw [cell_set_other (by simp)]; exact m2
  · rw [World.frozen?_setCell]; exact f0
  · rw [World.frozen?_setCell]; exact f1
  · rw [World.frozen?_setCell]; exact f2
theorem Kept.one (w : World) (b i : Nat) (u : Value) : Kept (fun x => x = b) w (w.setCell ⟨b, i, none⟩ u) := Kept.setCell (S := fun x => x = b) (p := ⟨b, i, none⟩) (Kept.refl _ w) (fun _ => rfl) u
theorem keys_lst (D : Nat → Int) (P : Nat → List Int) (n : Nat) : (lst D P n).map Prod.fst = keysC D n := by simp [lst, keysC]
def fetV (wa : Option Addr) (wn wc : Nat) (fa : Option Addr) (fn fc : Nat) (ca : Option Addr) (cn cc : Nat) : Value := .agg #[.slice wa wn wc, .slice fa fn fc, .slice ca cn cc]
structure RdF (w : World) (wa : Option Addr) (W : List Wn) (fa : Option Addr) (F : List Int) (ca : Option Addr) (D : Nat → Int) (P : Nat → List Int) (n : Nat) : Prop where
  wants : RdW w wa W
  failed : Reads .i64 w fa F
  chunks : RdC w ca D P n
theorem RdF.below {w w' : World} {wa : Option Addr} {W : List Wn} {fa : Option Addr} {F : List Int} {ca : Option Addr} {D : Nat → Int} {P : Nat → List Int} {n : Nat} (h : RdF w wa W fa F ca D P n) (hb : Below w.heap.size w w') : RdF w' wa W fa F ca D P n := ⟨h.wants.below hb, h.failed.below hb, h.chunks.below hb⟩
theorem Tryz.infoPW : (Tryz.prog.info? 123).map (fun i => (i.zero, i.size, i.bytes)) = some (some (.pointer none), 1, 8) := by kernel_rfl
theorem take_snoc {W : List Wn} {k : Nat} (h : k < W.length) : W.take (k + 1) = W.take k ++ [((W.getD k (0, 0)).1, (W.getD k (0, 0)).2)] := by
  have e : W.getD k (0, 0) = W[k] := by simp [List.getD_eq_getElem?_getD, h]
  rw [e, List.take_add_one, List.getElem?_eq_getElem h]
  rfl
theorem wFault_range {W : List Wn} {F C : List Int} {k : Nat} {d t : Int} (hd : (W.getD k (0, 0)).1 = d) (ht : (W.getD k (0, 0)).2 = t) (h : ¬ (okD d ∧ 0 ≤ t ∧ t < 3)) : wFault W F C k = some 3 := by
  unfold wFault; rw [hd, ht, if_neg h]
theorem wFault_taken {W : List Wn} {F C : List Int} {k : Nat} {d t : Int} (hd : (W.getD k (0, 0)).1 = d) (ht : (W.getD k (0, 0)).2 = t) (h : okD d ∧ 0 ≤ t ∧ t < 3) (hk : d ∈ C ∨ d ∈ F ∨ d ∈ (W.take k).map Prod.fst) : wFault W F C k = some 7 := by
  unfold wFault; rw [hd, ht, if_pos h, if_pos hk]
theorem wFault_none {W : List Wn} {F C : List Int} {k : Nat} {d t : Int} (hd : (W.getD k (0, 0)).1 = d) (ht : (W.getD k (0, 0)).2 = t) (h : okD d ∧ 0 ≤ t ∧ t < 3) (hk : ¬ (d ∈ C ∨ d ∈ F ∨ d ∈ (W.take k).map Prod.fst)) : wFault W F C k = none := by
  unfold wFault; rw [hd, ht, if_pos h, if_neg hk]
theorem okD_wf {d : Int} (h : okD d) : (Lit.int .i64 d).wf = true := i64_wf h.1 h.2
set_option maxRecDepth 100000 in
set_option maxHeartbeats 3200000 in
theorem wantsFault_any (wa : Option Addr) (wc : Nat) (W : List Wn) (fa : Option Addr) (fc : Nat) (F : List Int) (ca : Option Addr) (cc n : Nat) (D : Nat → Int) (P : Nat → List Int) (w : World) (h : RdF w wa W fa F ca D P n) (hR : RightC D P n) (hWl : W.length ≤ 1048576) (hFl : F.length ≤ 1048576) :
    Calls Tryz.prog 56 #[fetV wa W.length wc fa F.length fc ca n cc] w fun e w' => e = .returned (.int .i64 (firstBad (wFault W F (keysC D n)) 0 W.length)) ∧ Below w.heap.size w w' := by
  obtain ⟨i1, ki, kz0, kz1, kz2⟩ := info_parts Tryz.infoPW
  have HC := hide h.chunks
  have HF := hide h.failed
  have HW := hide h.wants
  have HRt := hide hR
  clear h hR
  have B0 := hide (below_alloc w (.cells #[.slice wa W.length wc, .slice fa F.length fc, .slice ca n cc] 28))
  have X0 := hide (Bx3.new w (.slice wa W.length wc) (.slice fa F.length fc) (.slice ca n cc) 28)
  unfold fetV
  go_enter Tryz.func56, Tryz.ntmps56
  obtain ⟨⟨t0, t1, t2⟩, t3, t4, t5⟩ := X0.out
  go_wp2_with fail
  clear t0 t1 t2 t3 t4 t5
  generalize w.alloc (.cells #[.slice wa W.length wc, .slice fa F.length fc, .slice ca n cc] 28) = W0 at *
  have KB : Hid (∀ w' : World, Below W0.heap.size W0 w' → w'.cell? ⟨w.heap.size, 1, none⟩ = some (.slice fa F.length fc) ∧ w'.cell? ⟨w.heap.size, 2, none⟩ = some (.slice ca n cc)) := hide (fun w' hb' => ⟨(X0.out.below hb').1.2.1, (X0.out.below hb').1.2.2⟩)
  have HMP := hide (fun (u : World) (hu : Below W0.heap.size W0 u) => mapChunks_any ca cc n D P u (HC.out.below (below_next B0.out hu)) HRt.out)
  go_region_held3 (fun w' => w'.cell? ⟨w.heap.size, 1, none⟩ = some (.slice fa F.length fc) ∧ w'.cell? ⟨w.heap.size, 2, none⟩ = some (.slice ca n cc)) (first | exact KB.out _ BB1.out | exact KB.out _ (Below.refl _ _).drew | exact KB.out _ (below_next BB1.out (below_alloc _ _)) | go_keep)
    ((go_at_call 54; refine (HMP.out _ (Below.refl _ _).drew).mono ?_; rintro r w1 ⟨bm, rfl, hbm, hH1, hb1⟩; have BB1 := hide ((Below.refl W0.heap.size W0).drew.trans hb1); have H1 := hide hH1; clear hH1 hb1))
  have X1 := hide (X0.out.below BB1.out)
  have B1 := hide (below_next B0.out BB1.out)
  have hs1 : w.heap.size < w1.heap.size := by have := X1.out.lt; omega
  have H1' := hide (H1.out.below (below_alloc w1 (.cells #[.slice none 0 0, .slice fa F.length fc, .map (some bm)] 97)))
  have XF := hide (Bx3.new w1 (.slice none 0 0) (.slice fa F.length fc) (.map (some bm)) 97)
  have BF := hide (below_next B1.out (below_alloc w1 (.cells #[.slice none 0 0, .slice fa F.length fc, .map (some bm)] 97)))
  obtain ⟨⟨t0, t1, t2⟩, t3, t4, t5⟩ := X1.out.below (below_alloc w1 (.cells #[.slice none 0 0, .slice fa F.length fc, .map (some bm)] 97))
  have hT0 : W0.drew.heap.size ≤ w1.heap.size := BB1.out.size
  have hbf : bm < w1.heap.size := H1.out.lt
  clear X1 B1 H1 BB1 KB HMP X0 B0
  go_wp2_with fail
  clear t0 t1 t2 t3 t4 t5
  generalize hWF : w1.alloc (.cells #[.slice none 0 0, .slice fa F.length fc, .map (some bm)] 97) = WF at *
  have hsF : WF.heap.size = w1.heap.size + 1 := by rw [← hWF]; simp
  generalize w1.heap.size = fb at *
  clear hWF
  generalize W0.drew.heap.size = T0 at *
  go_loopw [5, 16] (fun _ i wr => ∃ (k : Nat) (ps : List Nat) (a : Option Addr) (c : Nat), k ≤ W.length ∧ i = .int .i64 k ∧ Hid (Bx3 wr fb (.slice a k c) (.slice fa F.length fc) (.map (some bm))) ∧ Hid (OwnP WF.heap.size wr (.slice a k c) ps (W.take k)) ∧ Hid (Kept (fun x => x = fb) WF wr) ∧ Hid (firstBad (wFault W F (keysC D n)) 0 W.length = firstBad (wFault W F (keysC D n)) k (W.length - k))) (fun _ i _ => W.length - (intOf i).toNat)
  case atStart => exact ⟨0, [], none, 0, Nat.zero_le _, rfl, XF, hide (by simpa using OwnP.nil _ _), hide (Kept.refl _ _), hide rfl⟩
  case round =>
    obtain ⟨k, ps, a, c, hk, rfl, X, OP, KP, FB⟩ := hrel
    have BW := hide (BF.out.trans (KP.out.below (B := w.heap.size) BF.out.size (fun j hj e => by omega)))
    by_cases hlt : k < W.length
    · obtain ⟨b1, o1, rfl, hb1, hc1⟩ := HW.out (by intro e; simp [e] at hlt)
      obtain ⟨c1, c2⟩ := hc1 k hlt
      have c1 := (BW.out.cell (p := ⟨b1, o1 + k * 2, none⟩) hb1).trans c1
      have c2 := (BW.out.cell (p := ⟨b1, o1 + k * 2 + 1, none⟩) hb1).trans c2
      have HTS := hide (take_snoc hlt)
      generalize hd : (W.getD k (0, 0)).1 = d at *
      generalize ht : (W.getD k (0, 0)).2 = t at *
      have HD := hide hd
      have HT := hide ht
      clear hd ht hc1
      have A1 := hide (below_alloc wr (.cells #[.int .i64 d, .int .i64 t] 120))
      by_cases hok : okD d ∧ 0 ≤ t ∧ t < 3
      · obtain ⟨hd, ht0, ht3⟩ := hok
        have HOK := hide (And.intro hd (And.intro ht0 ht3))
        have P1 := hide (Box.new wr (.int .i64 d) (.int .i64 t) 120)
        have X1 := hide (X.out.below A1.out)
        have OP1 := hide (OP.out.below A1.out)
        have hlk : (W.take k).length = k := by simp; omega
        have HKn := knows_any fb a c ps (W.take k) fa fc F bm n T0 (lst D P n) d _ (by rw [hlk]; exact X1.out.1.1) X1.out.1.2.1 X1.out.1.2.2 OP1.out.rd ((HF.out.below BW.out).below A1.out) ((H1'.out.kept KP.out (by omega) (fun x hx => by omega)).below A1.out) (by omega) hFl (okD_wf hd)
        rw [keys_lst] at HKn
        have HKN := hide HKn
        have hdk : decide (okD d) = true := decide_eq_true hd
        have hn0 : decide (t < 0) = false := by simpa using ht0
        have hn3 : decide (3 ≤ t) = false := by simpa using ht3
        have hn0' : ¬ t < 0 := by omega
        have hn3' : ¬ 3 ≤ t := by omega
        clear HKn hd ht0 ht3
        by_cases hkn : d ∈ keysC D n ∨ d ∈ F ∨ d ∈ (W.take k).map Prod.fst
        · have HFT := hide (wFault_taken HD.out HT.out HOK.out hkn)
          rw [decide_eq_true hkn] at HKN
          clear hkn
          go_wp2_with fail
          refine (isDg_any d _).mono ?_
          rintro e w' ⟨rfl, rfl⟩
          rw [hdk]
          go_wp2_with fail
          refine HKN.out.mono ?_
          rintro e w2 ⟨rfl, hb2⟩
          have B2 := hide (below_next (below_next BW.out A1.out) hb2)
          clear hb2
          go_wp2_with fail
          go_ret
          exact ⟨ret_int (by rw [FB.out, firstBad_hit hlt HFT.out]), B2.out⟩
        · have HFT := hide (wFault_none HD.out HT.out HOK.out hkn)
          rw [decide_eq_false hkn] at HKN
          clear hkn
          go_wp2_with fail
          refine (isDg_any d _).mono ?_
          rintro e w' ⟨rfl, rfl⟩
          rw [hdk]
          go_wp2_with fail
          refine HKN.out.mono ?_
          rintro e w2 ⟨rfl, hb2⟩
          have B2 := hide hb2
          have X2 := hide (X1.out.below hb2)
          have OP2 := hide (OP1.out.below hb2)
          have P2 := hide (P1.out.below hb2)
          have R2 : Hid (w2.ownsRow WF.heap.size 123 1 (.slice a k c) k (ps.map ptrV)) := hide (by have := OP2.out.row; rw [hlk] at this; exact this)
          have hm1 : k + 1 ≤ maxLen := by unfold maxLen; omega
          have hm2 : (k + 1) * 8 ≤ 140737488355328 := by omega
          have hsw : WF.heap.size ≤ wr.heap.size := KP.out.size
          have hsz : WF.heap.size ≤ w2.heap.size := by have := B2.out.size; simp at this; omega
          obtain ⟨⟨x0, x1, x2⟩, x3, x4, x5⟩ := X2.out
          clear hb2 HKN hdk
          have hpp : ∃ p, p = wr.heap.size := ⟨_, rfl⟩
          obtain ⟨p, hpp⟩ := hpp
          have HPN : Hid (¬ p < wr.heap.size) := hide (by omega)
          rw [← hpp] at P1 P2 hsw ⊢
          clear hpp
          go_wp2_with (at_builtin; refine wpList_append_one rfl (.tmp 42) (.tmp 43) 95 rfl WF.heap.size 123 i1 (.pointer none) 1 8 Tryz.underlying95 ki kz0 kz1 kz2 rfl (by decide) _ _ _ rfl R2.out rfl rfl (by intro u hu; simp at hu; subst hu; rfl) hm1 hm2 hsz ?_; intro v' w3 hrow3 hk3; obtain ⟨a', c', rfl⟩ := ownsRow_shape hrow3; have O3 := hide hrow3; have K3 := hide hk3; have X3 := hide (X2.out.kept hk3 (fun e => by have := (R2.out.lt _ e).1; omega)); clear hrow3 hk3; obtain ⟨⟨y0, y1, y2⟩, y3, y4, y5⟩ := X3.out)
          have OP3 := hide (OP2.out.push (p := p) P2.out (by omega) (fun i hi e => by
            have h1 := (OP.out.box i hi).2.1.lt
            rw [e] at h1
            exact absurd h1 HPN.out) (by rw [hlk]; exact O3.out) (by exact K3.out) (fun b hb e => by
            have h1 := (OP.out.row.lt b hb).2
            rw [← e] at h1
            exact absurd h1 HPN.out))
          rw [← HTS.out] at OP3
          go_roundw
          case rel => exact ⟨k + 1, ps ++ [p], a', c', by omega, by go_num, hide (X3.out.set0 _), hide (OP3.out.kept (Kept.one w3 fb 0 _) (fun b hb e => by omega)), hide ((((KP.out.trans (Kept.of_below A1.out)).trans (Kept.of_below B2.out)).trans_own K3.out (fun b hb e => by have := (R2.out.lt b e).1; omega)).trans (Kept.one w3 fb 0 _)), hide (by rw [FB.out, firstBad_miss hlt HFT.out])⟩
          case measure => simp [intOf]; omega
      · have HFT := hide (wFault_range (F := F) (C := keysC D n) HD.out HT.out hok)
        by_cases hd : okD d
        · have hdk : decide (okD d) = true := decide_eq_true hd
          by_cases ht0 : t < 0
          · have hn0 : decide (t < 0) = true := by simpa using ht0
            go_wp2_with fail
            refine (isDg_any d _).mono ?_
            rintro e w' ⟨rfl, rfl⟩
            rw [hdk]
            go_wp2_with fail
            go_ret
            exact ⟨ret_int (by rw [FB.out, firstBad_hit hlt HFT.out]), below_next BW.out A1.out⟩
          · have ht3 : 3 ≤ t := by
              by_cases h : 3 ≤ t
              · exact h
              · exact absurd ⟨hd, by omega, by omega⟩ hok
            have hn0 : decide (t < 0) = false := by simpa using ht0
            have hn3 : decide (3 ≤ t) = true := by simpa using ht3
            go_wp2_with fail
            refine (isDg_any d _).mono ?_
            rintro e w' ⟨rfl, rfl⟩
            rw [hdk]
            go_wp2_with fail
            go_ret
            exact ⟨ret_int (by rw [FB.out, firstBad_hit hlt HFT.out]), below_next BW.out A1.out⟩
        · have hdk : decide (okD d) = false := decide_eq_false hd
          go_wp2_with fail
          refine (isDg_any d _).mono ?_
          rintro e w' ⟨rfl, rfl⟩
          rw [hdk]
          go_wp2_with fail
          go_ret
          exact ⟨ret_int (by rw [FB.out, firstBad_hit hlt HFT.out]), below_next BW.out A1.out⟩
    · have hkl : k = W.length := by omega
      subst hkl
      go_wp2_with fail
      go_ret
      exact ⟨ret_int (by rw [FB.out, firstBad_end (Nat.le_refl _)]), BW.out⟩
theorem fFault_range {F C : List Int} {k : Nat} {d : Int} (hd : F.getD k 0 = d) (h : ¬ okD d) : fFault F C k = some 3 := by
  unfold fFault; rw [hd, if_neg h]
theorem fFault_taken {F C : List Int} {k : Nat} {d : Int} (hd : F.getD k 0 = d) (h : okD d) (hk : d ∈ C ∨ d ∈ F.take k) : fFault F C k = some 7 := by
  unfold fFault; rw [hd, if_pos h, if_pos hk]
theorem fFault_none {F C : List Int} {k : Nat} {d : Int} (hd : F.getD k 0 = d) (h : okD d) (hk : ¬ (d ∈ C ∨ d ∈ F.take k)) : fFault F C k = none := by
  unfold fFault; rw [hd, if_pos h, if_neg hk]
theorem take_int {F : List Int} {k : Nat} (h : k < F.length) : F.take (k + 1) = F.take k ++ [F.getD k 0] := by
  have e : F.getD k 0 = F[k] := by simp [List.getD_eq_getElem?_getD, h]
  rw [e, List.take_add_one, List.getElem?_eq_getElem h]
  rfl
set_option maxRecDepth 100000 in
set_option maxHeartbeats 3200000 in
theorem failedFault_any (wa : Option Addr) (wn wc : Nat) (fa : Option Addr) (fc : Nat) (F : List Int) (ca : Option Addr) (cc n : Nat) (D : Nat → Int) (P : Nat → List Int) (w : World) (hf : Reads .i64 w fa F) (hc : RdC w ca D P n) (hR : RightC D P n) (hFl : F.length ≤ 1048576) :
    Calls Tryz.prog 57 #[fetV wa wn wc fa F.length fc ca n cc] w fun e w' => e = .returned (.int .i64 (firstBad (fFault F (keysC D n)) 0 F.length)) ∧ Below w.heap.size w w' := by
  obtain ⟨i1, ki, kz0, kz1, kz2⟩ := info_parts Tryz.infoI64
  have HC := hide hc
  have HF := hide hf
  have HRt := hide hR
  clear hc hf hR
  have B0 := hide (below_alloc w (.cells #[.slice wa wn wc, .slice fa F.length fc, .slice ca n cc] 28))
  have X0 := hide (Bx3.new w (.slice wa wn wc) (.slice fa F.length fc) (.slice ca n cc) 28)
  unfold fetV
  go_enter Tryz.func57, Tryz.ntmps57
  obtain ⟨⟨t0, t1, t2⟩, t3, t4, t5⟩ := X0.out
  go_wp2_with fail
  clear t0 t1 t2 t3 t4 t5
  generalize w.alloc (.cells #[.slice wa wn wc, .slice fa F.length fc, .slice ca n cc] 28) = W0 at *
  refine (mapChunks_any ca cc n D P W0 (HC.out.below B0.out) HRt.out).mono ?_
  rintro r w1 ⟨bm, rfl, hbm, hH1, hb1⟩
  have BB1 := hide hb1
  have H1 := hide hH1
  clear hH1 hb1
  have X1 := hide (X0.out.below BB1.out)
  have B1 := hide (below_next B0.out BB1.out)
  have hs1 : w.heap.size < w1.heap.size := by have := X1.out.lt; omega
  have H1' := hide (H1.out.below (below_alloc w1 (.cells #[.slice none 0 0, .slice none 0 0, .map (some bm)] 97)))
  have XF := hide (Bx3.new w1 (.slice none 0 0) (.slice none 0 0) (.map (some bm)) 97)
  have BF := hide (below_next B1.out (below_alloc w1 (.cells #[.slice none 0 0, .slice none 0 0, .map (some bm)] 97)))
  obtain ⟨⟨t0, t1, t2⟩, t3, t4, t5⟩ := X1.out.below (below_alloc w1 (.cells #[.slice none 0 0, .slice none 0 0, .map (some bm)] 97))
  have hT0 : W0.heap.size ≤ w1.heap.size := BB1.out.size
  have hbf : bm < w1.heap.size := H1.out.lt
  clear X1 B1 H1 BB1 X0 B0
  go_wp2_with fail
  clear t0 t1 t2 t3 t4 t5
  generalize hWF : w1.alloc (.cells #[.slice none 0 0, .slice none 0 0, .map (some bm)] 97) = WF at *
  have hsF : WF.heap.size = w1.heap.size + 1 := by rw [← hWF]; simp
  generalize w1.heap.size = fb at *
  clear hWF
  generalize W0.heap.size = T0 at *
  go_loopw [5, 14] (fun _ i wr => ∃ (k : Nat) (a : Option Addr) (c : Nat), k ≤ F.length ∧ i = .int .i64 k ∧ Hid (Bx3 wr fb (.slice none 0 0) (.slice a k c) (.map (some bm))) ∧ Hid (wr.ownsRow WF.heap.size 2 1 (.slice a k c) k ((F.take k).map (Value.int .i64))) ∧ Hid (Kept (fun x => x = fb) WF wr) ∧ Hid (firstBad (fFault F (keysC D n)) 0 F.length = firstBad (fFault F (keysC D n)) k (F.length - k))) (fun _ i _ => F.length - (intOf i).toNat)
  case atStart => exact ⟨0, none, 0, Nat.zero_le _, rfl, XF, hide (World.ownsRow_nil _ _ _ _), hide (Kept.refl _ _), hide rfl⟩
  case round =>
    obtain ⟨k, a, c, hk, rfl, X, OR, KP, FB⟩ := hrel
    have BW := hide (BF.out.trans (KP.out.below (B := w.heap.size) BF.out.size (fun j hj e => by omega)))
    by_cases hlt : k < F.length
    · obtain ⟨b1, o1, rfl, hb1, hc1⟩ := HF.out (by intro e; simp [e] at hlt)
      have c1 := (BW.out.cell (p := ⟨b1, o1 + k, none⟩) hb1).trans (hc1 k hlt)
      have HTS := hide (take_int hlt)
      generalize hd : F.getD k 0 = d at *
      have HD := hide hd
      clear hd hc1
      by_cases hd : okD d
      · have hlk : (F.take k).length = k := by simp; omega
        have HKn := knows_any fb none 0 [] [] a c (F.take k) bm n T0 (lst D P n) d wr X.out.1.1 (by rw [hlk]; exact X.out.1.2.1) X.out.1.2.2 (RdP.nil _ _) (ownsRow_own OR.out hlk.symm).reads (H1'.out.kept KP.out (by omega) (fun x hx => by omega)) (by simp) (by omega) (okD_wf hd)
        rw [keys_lst] at HKn
        have HKN := hide HKn
        have hdk : decide (okD d) = true := decide_eq_true hd
        have HOK := hide hd
        clear HKn hd
        by_cases hkn : d ∈ keysC D n ∨ d ∈ F.take k
        · have HFT := hide (fFault_taken HD.out HOK.out hkn)
          rw [decide_eq_true (show d ∈ keysC D n ∨ d ∈ F.take k ∨ d ∈ ([] : List Wn).map Prod.fst from hkn.elim Or.inl (fun h => Or.inr (Or.inl h)))] at HKN
          clear hkn
          go_wp2_with fail
          refine (isDg_any d _).mono ?_
          rintro e wr ⟨rfl, rfl⟩
          rw [hdk]
          go_wp2_with fail
          refine HKN.out.mono ?_
          rintro e w2 ⟨rfl, hb2⟩
          have B2 := hide (below_next BW.out hb2)
          clear hb2
          go_wp2_with fail
          go_ret
          exact ⟨ret_int (by rw [FB.out, firstBad_hit hlt HFT.out]), B2.out⟩
        · have HFT := hide (fFault_none HD.out HOK.out hkn)
          rw [decide_eq_false (show ¬ (d ∈ keysC D n ∨ d ∈ F.take k ∨ d ∈ ([] : List Wn).map Prod.fst) from fun h => hkn (h.elim Or.inl (fun h => h.elim Or.inr (fun h => by simp at h))))] at HKN
          clear hkn
          go_wp2_with fail
          refine (isDg_any d _).mono ?_
          rintro e wr ⟨rfl, rfl⟩
          rw [hdk]
          go_wp2_with fail
          refine HKN.out.mono ?_
          rintro e w2 ⟨rfl, hb2⟩
          have B2 := hide hb2
          have X2 := hide (X.out.below hb2)
          have R2 := hide (ownsRow_below OR.out hb2)
          have hm1 : k + 1 ≤ maxLen := by unfold maxLen; omega
          have hm2 : (k + 1) * 8 ≤ 140737488355328 := by omega
          have hsw : WF.heap.size ≤ wr.heap.size := KP.out.size
          have hsz : WF.heap.size ≤ w2.heap.size := by have := B2.out.size; omega
          obtain ⟨⟨x0, x1, x2⟩, x3, x4, x5⟩ := X2.out
          clear hb2 HKN hdk
          go_wp2_with (at_builtin; refine wpList_append_one rfl (.tmp 28) (.tmp 30) 25 rfl WF.heap.size 2 i1 (.int .i64 0) 1 8 Tryz.underlying25 ki kz0 kz1 kz2 rfl (by decide) _ _ _ rfl R2.out rfl rfl (by intro u hu; simp at hu; subst hu; rfl) hm1 hm2 hsz ?_; intro v' w3 hrow3 hk3; obtain ⟨a', c', rfl⟩ := ownsRow_shape hrow3; have O3 := hide hrow3; have K3 := hide hk3; have X3 := hide (X2.out.kept hk3 (fun e => by have := (R2.out.lt _ e).1; omega)); clear hrow3 hk3; obtain ⟨⟨y0, y1, y2⟩, y3, y4, y5⟩ := X3.out)
          go_roundw
          case rel => exact ⟨k + 1, a', c', by omega, by go_num, hide (X3.out.set1 _), hide (by rw [HTS.out, List.map_append]; exact ownsRow_kept O3.out (Kept.one w3 fb 1 _) (fun b hb e => by have := (O3.out.lt b hb).1; omega)), hide (((KP.out.trans (Kept.of_below B2.out)).trans_own K3.out (fun b hb e => by have := (R2.out.lt b e).1; omega)).trans (Kept.one w3 fb 1 _)), hide (by rw [FB.out, firstBad_miss hlt HFT.out])⟩
          case measure => simp [intOf]; omega
      · have HFT := hide (fFault_range (C := keysC D n) HD.out hd)
        have hdk : decide (okD d) = false := decide_eq_false hd
        go_wp2_with fail
        refine (isDg_any d _).mono ?_
        rintro e wr ⟨rfl, rfl⟩
        rw [hdk]
        go_wp2_with fail
        go_ret
        exact ⟨ret_int (by rw [FB.out, firstBad_hit hlt HFT.out]), BW.out⟩
    · have hkl : k = F.length := by omega
      subst hkl
      go_wp2_with fail
      go_ret
      exact ⟨ret_int (by rw [FB.out, firstBad_end (Nat.le_refl _)]), BW.out⟩
def SmallP (P : Nat → List Int) (n : Nat) : Prop := ∀ i, i < n → U8 (P i) ∧ (P i).length ≤ 1048576
set_option maxRecDepth 100000 in
set_option maxHeartbeats 1600000 in
theorem implFetchFault_any (wa : Option Addr) (wc : Nat) (W : List Wn) (fa : Option Addr) (fc : Nat) (F : List Int) (ca : Option Addr) (cc n : Nat) (D : Nat → Int) (P : Nat → List Int) (w : World) (h : RdF w wa W fa F ca D P n) (hn : n ≤ 1048576) (hP : SmallP P n) (hWl : W.length ≤ 1048576) (hFl : F.length ≤ 1048576) :
    Calls Tryz.prog 15 #[fetV wa W.length wc fa F.length fc ca n cc] w fun e w' => e = .returned (.int .i64 (fetFault W F D P n)) ∧ Below w.heap.size w w' := by
  have HR := hide h
  have HP := hide hP
  clear h hP
  have B0 := hide (below_alloc w (.cells #[.slice wa W.length wc, .slice fa F.length fc, .slice ca n cc] 28))
  have X0 := hide (Bx3.new w (.slice wa W.length wc) (.slice fa F.length fc) (.slice ca n cc) 28)
  unfold fetV
  go_enter Tryz.func15, Tryz.ntmps15
  obtain ⟨⟨t0, t1, t2⟩, t3, t4, t5⟩ := X0.out
  go_wp2_with fail
  clear t0 t1 t2 t3 t4 t5
  generalize w.alloc (.cells #[.slice wa W.length wc, .slice fa F.length fc, .slice ca n cc] 28) = W0 at *
  refine (implFault_any ca cc n D P W0 (HR.out.chunks.below B0.out) hn HP.out).mono ?_
  rintro r w1 ⟨rfl, hb1⟩
  have X1 := hide (X0.out.below hb1)
  have B1 := hide (below_next B0.out hb1)
  clear hb1 X0 B0
  by_cases hf : fault D P n = 0
  · have HRt := hide (fault_zero hf)
    have HE := hide (show fetFault W F D P n = listsFault W F (keysC D n) by rw [fetFault, hf]; simp)
    rw [hf]
    clear hf
    obtain ⟨⟨t0, t1, t2⟩, t3, t4, t5⟩ := X1.out
    by_cases hw : 12 < W.length
    · have hw1 : (12 : Int) < (W.length : Int) := by omega
      have HL := hide (show listsFault W F (keysC D n) = 2 by rw [listsFault, if_pos (Or.inl hw)])
      go_wp2_with fail
      go_ret
      exact ⟨ret_int (by rw [HE.out, HL.out]), B1.out⟩
    · have hw1 : ¬ (12 : Int) < (W.length : Int) := by omega
      by_cases hff : 40 < F.length
      · have hf1 : (40 : Int) < (F.length : Int) := by omega
        have HL := hide (show listsFault W F (keysC D n) = 2 by rw [listsFault, if_pos (Or.inr hff)])
        go_wp2_with fail
        go_ret
        exact ⟨ret_int (by rw [HE.out, HL.out]), B1.out⟩
      · have hf1 : ¬ (40 : Int) < (F.length : Int) := by omega
        have HL := hide (show listsFault W F (keysC D n) = if firstBad (wFault W F (keysC D n)) 0 W.length ≠ 0 then firstBad (wFault W F (keysC D n)) 0 W.length else firstBad (fFault F (keysC D n)) 0 F.length by rw [listsFault, if_neg (by omega)])
        have HWF := hide (wantsFault_any wa wc W fa fc F ca cc n D P w1 (HR.out.below B1.out) HRt.out hWl hFl)
        have HFF := hide (fun (u : World) (hu : Below w.heap.size w u) => failedFault_any wa W.length wc fa fc F ca cc n D P u (HR.out.failed.below hu) (HR.out.chunks.below hu) HRt.out hFl)
        unfold fetV at HWF HFF
        have HLL := hide (HE.out.trans HL.out)
        clear HL HE
        generalize firstBad (wFault W F (keysC D n)) 0 W.length = A at *
        generalize firstBad (fFault F (keysC D n)) 0 F.length = C at *
        go_wp2_with fail
        refine HWF.out.mono ?_
        rintro r w2 ⟨rfl, hb2⟩
        have X2 := hide (X1.out.below hb2)
        have B2 := hide (below_next B1.out hb2)
        clear hb2 HWF X1 B1 t0 t1 t2 t3 t4 t5
        by_cases hA : A = 0
        · subst hA
          obtain ⟨⟨t0, t1, t2⟩, t3, t4, t5⟩ := X2.out
          go_wp2_with fail
          refine (HFF.out w2 B2.out).mono ?_
          rintro r w3 ⟨rfl, hb3⟩
          have B3 := hide (below_next B2.out hb3)
          clear hb3 t0 t1 t2 t3 t4 t5
          go_wp2_with fail
          go_ret
          exact ⟨ret_int (by rw [HLL.out]; simp), B3.out⟩
        · have hA1 : (A != 0) = true := by simpa using hA
          go_wp2_with fail
          go_ret
          exact ⟨ret_int (by rw [HLL.out, if_pos hA]), B2.out⟩
  · have hf1 : (fault D P n != 0) = true := by simpa using hf
    have HE := hide (show fetFault W F D P n = fault D P n by rw [fetFault, if_pos hf])
    generalize fault D P n = A at *
    clear hf
    go_wp2_with fail
    go_ret
    exact ⟨ret_int (by rw [HE.out]), B1.out⟩
end Go.Proofs.YtfamiehfpmjljaaGreatDoor

