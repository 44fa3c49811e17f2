/-
  Contracts of the laws' helpers on byte slices: toByteS, eqByteS, markByteS, heldByteS.
-/
import Derived.Test.YtcknabinmbknaaaGreatDoorJ1
namespace Go.Proofs.YtcknabinmbknaaaGreatDoor
open Go.RowKit
set_option linter.unusedVariables false

theorem Tryz.infoU8 : (Tryz.prog.info? 5).map (fun i => (i.zero, i.size, i.bytes)) = some (some (.int .u8 0), 1, 1) := by kernel_rfl

set_option maxHeartbeats 400000 in
theorem toByteS_any (a : Option Addr) (cap : Nat) (zs : List Int) (w : World) (h : Reads .u8 w a zs) (hl : zs.length ≤ 1048576) :
    Calls Tryz.prog 21 #[.slice a zs.length cap] w fun e w' => e = .returned (.slice (some ⟨w.heap.size, 0, none⟩) zs.length zs.length) ∧
      w'.rowIs w.heap.size 5 zs.length (fun i => .int .u8 (zs.getD i 0)) ∧ Below w.heap.size w w' := by
  have hmk := run_make_row' (P := Tryz.prog) 22 5 (.int .u8 0) 1 Tryz.underlying22 Tryz.infoU8 rfl .i64 .i64 zs.length (by omega) (by omega)
  go_enter Tryz.func21, Tryz.ntmps21
  go_wp2
  go_loopw [4] (fun i wr => ∃ k : Nat, k ≤ zs.length ∧ i = .int .i64 k ∧ wr.rowIs w.heap.size 5 zs.length (fun j => if j < k then .int .u8 (zs.getD j 0) else .int .u8 0) ∧ Below w.heap.size w wr) (fun i _ => zs.length - (intOf i).toNat)
  case atStart => exact ⟨0, Nat.zero_le _, rfl, (World.rowIs_made w _ _ _).congr (by simp), (Below.refl _ _).alloc (Nat.le_refl _) _⟩
  case round =>
    obtain ⟨k, hk, rfl, hrow, hbel⟩ := hrel
    by_cases hlt : k < zs.length
    · obtain ⟨b, off, rfl, hb, hc⟩ := h (by intro e; simp [e] at hlt)
      obtain ⟨z, hz⟩ : ∃ z, z = zs.getD k 0 := ⟨_, rfl⟩
      have hc1 : wr.cell? ⟨b, off + k, none⟩ = some (.int .u8 z) := (hbel.cell (p := ⟨b, off + k, none⟩) hb).trans (by rw [hz]; exact hc k hlt)
      have hf : wr.frozen? ⟨w.heap.size, k, none⟩ = false := hrow.frozen k
      have hc0 : wr.cell? ⟨w.heap.size, k, none⟩ = some (.int .u8 0) := by rw [hrow.cell hlt, if_neg (by omega)]
      have HZ := hide hz
      clear hz
      have HR := hide hrow
      have HB := hide hbel
      have HC := hide hc
      clear hrow hbel hc h
      go_wp2
      go_roundw
      case rel => exact ⟨k + 1, by omega, by go_num, by rw [HZ.out]; exact row_step (f := fun j => .int .u8 (zs.getD j 0)) (z := fun _ => .int .u8 0) HR.out, HB.out.setCell (Nat.le_refl _) _⟩
      case measure => simp [intOf]; omega
    · go_wp2
      go_ret
      exact ⟨rfl, hrow.congr (fun i hi => by rw [if_pos (by omega)]), hbel⟩


set_option maxHeartbeats 400000 in
theorem eqByteS_any (a b : Option Addr) (ca cb : Nat) (xs ys : List Int) (w : World) (ha : Reads .u8 w a xs) (hb : Reads .u8 w b ys) (hl : xs.length ≤ 1048576) (hl2 : ys.length ≤ 1048576) :
    Calls Tryz.prog 22 #[.slice a xs.length ca, .slice b ys.length cb] w fun e w' => e = .returned (.bool (xs == ys)) ∧ ∃ n, w' = w.drewN n := by
  by_cases hlen : xs.length = ys.length
  · have hne : ((xs.length : Int) != (ys.length : Int)) = false := by simp [hlen]
    go_enter Tryz.func22, Tryz.ntmps22
    go_wp2
    go_loopw [5] (fun i wr => ∃ k : Nat, k ≤ xs.length ∧ i = .int .i64 k ∧ xs.take k = ys.take k ∧ ∃ n, wr = w.drewN n) (fun i _ => xs.length - (intOf i).toNat)
    case atStart => exact ⟨0, Nat.zero_le _, rfl, rfl, 0, rfl⟩
    case round =>
      obtain ⟨k, hk, rfl, htk, n, rfl⟩ := hrel
      have HT := hide htk
      clear htk
      by_cases hlt : k < xs.length
      · obtain ⟨b1, o1, rfl, hb1, hc1⟩ := ha (by intro e; simp [e] at hlt)
        obtain ⟨b2, o2, rfl, hb2, hc2⟩ := hb (by intro e; rw [e] at hlen; simp at hlen; simp [hlen] at hlt)
        obtain ⟨x, hx⟩ : ∃ x, x = xs.getD k 0 := ⟨_, rfl⟩
        obtain ⟨y, hy⟩ : ∃ y, y = ys.getD k 0 := ⟨_, rfl⟩
        have c1 : w.cell? ⟨b1, o1 + k, none⟩ = some (.int .u8 x) := by rw [hx]; exact hc1 k hlt
        have c2 : w.cell? ⟨b2, o2 + k, none⟩ = some (.int .u8 y) := by rw [hy]; exact hc2 k (by omega)
        have HX := hide hx
        have HY := hide hy
        clear hc1 hc2 ha hb hx hy
        have hk2 : k < ys.length := by omega
        by_cases heq : x = y
        · have hb : (x != y) = false := by simp [heq]
          have HE := hide heq
          clear heq
          go_wp2
          go_quiet (fail)
          go_wp2
          go_roundw
          case rel => exact ⟨k + 1, by omega, by go_num, take_eq_step hlt hk2 HT.out (by rw [← HX.out, ← HY.out]; exact HE.out), _, rfl⟩
          case measure => simp [intOf]; omega
        · have hb : (x != y) = true := by simp [heq]
          go_wp2
          go_quiet (fail)
          go_wp2
          go_ret
          exact ⟨ret_bool (ne_of_getD (k := k) (by rw [← HX.out, ← HY.out]; exact heq)).symm, _, World.drewN_drewN _ _ _⟩
      · go_wp2
        go_ret
        exact ⟨ret_bool (eq_of_take (k := k) (by omega) (by omega) HT.out).symm, _, rfl⟩
  · have hne : ((xs.length : Int) != (ys.length : Int)) = true := by simp; omega
    go_enter Tryz.func22, Tryz.ntmps22
    go_wp2
    go_ret
    have e : (xs == ys) = false := by simp; intro e; exact hlen (by rw [e])
    exact ⟨ret_bool e.symm, 0, rfl⟩


theorem toByteS_at (a : Option Addr) (cap : Nat) (zs : List Int) (w : World) (h : Reads .u8 w a zs) (hl : zs.length ≤ 1048576) :
    Calls Tryz.prog 21 #[.slice a zs.length cap] w fun e w' => ∃ g, e = .returned (.slice (some ⟨g, 0, none⟩) zs.length zs.length) ∧ w.heap.size ≤ g ∧ g < w'.heap.size ∧ Own .u8 w' (some ⟨g, 0, none⟩) zs ∧ Below w.heap.size w w' := by
  refine (toByteS_any a cap zs w h hl).mono ?_
  rintro e w' ⟨rfl, hr, hb⟩
  exact ⟨_, rfl, Nat.le_refl _, hr.lt, Own.row hr (Nat.le_refl _) (fun _ _ => rfl), hb⟩

theorem toByteS_own (a : Option Addr) (cap : Nat) (zs : List Int) (w : World) (h : Reads .u8 w a zs) (hl : zs.length ≤ 1048576) :
    Calls Tryz.prog 21 #[.slice a zs.length cap] w fun e w' => ∃ g, e = .returned (.slice (some ⟨g, 0, none⟩) zs.length zs.length) ∧ w.heap.size ≤ g ∧ w'.ownsRow w.heap.size 5 1 (.slice (some ⟨g, 0, none⟩) zs.length zs.length) zs.length (zs.map (Value.int .u8)) ∧ Below w.heap.size w w' := by
  refine (toByteS_any a cap zs w h hl).mono ?_
  rintro e w' ⟨rfl, hr, hb⟩
  exact ⟨_, rfl, Nat.le_refl _, ownsRow_of_row hr (Nat.le_refl _) (by unfold maxLen; omega), hb⟩

theorem eqByteS_b (a b : Option Addr) (ca cb : Nat) (xs : List Int) (w : World) (ha : Reads .u8 w a xs) (hb : Reads .u8 w b xs) (hl : xs.length ≤ 1048576) :
    Calls Tryz.prog 22 #[.slice a xs.length ca, .slice b xs.length cb] w fun e w' => e = .returned (.bool true) ∧ Below w.heap.size w w' := by
  refine (eqByteS_any a b ca cb xs xs w ha hb hl hl).mono ?_
  rintro e w' ⟨rfl, m, rfl⟩
  exact ⟨ret_bool (by simp), below_drewN (Below.refl _ _) m⟩

/-- One store of a walk that writes a row cell by cell. -/
theorem own_step {w : World} {b off j n : Nat} {k : IntKind} {f g : Nat → Int} {v : Int} (h : ∀ t, t < n → w.cell? ⟨b, off + t, none⟩ = some (.int k (if t < j then f t else g t)) ∧ w.frozen? ⟨b, off + t, none⟩ = false) (hj : j < n) (hv : v = f j) :
    ∀ t, t < n → (w.setCell ⟨b, off + j, none⟩ (.int k v)).cell? ⟨b, off + t, none⟩ = some (.int k (if t < j + 1 then f t else g t)) ∧ (w.setCell ⟨b, off + j, none⟩ (.int k v)).frozen? ⟨b, off + t, none⟩ = false := by
  intro t ht
  obtain ⟨h1, h2⟩ := h t ht
  refine ⟨?_, by rw [World.frozen?_setCell]; exact h2⟩
  by_cases e : t = j
  · subst e
    rw [cell_set_same (h t hj).1, if_pos (by omega), hv]
  · rw [cell_set_other (fun c => e (Nat.add_left_cancel (show off + j = off + t from congrArg Addr.off c)).symm), h1]
    by_cases e2 : t < j
    · rw [if_pos e2, if_pos (by omega)]
    · rw [if_neg e2, if_neg (by omega)]

set_option maxHeartbeats 400000 in
theorem markByteS_any (a : Option Addr) (cap : Nat) (zs : List Int) (k : Int) (w : World) (h : Own .u8 w a zs) (hk0 : 0 ≤ k) (hk1 : k ≤ 1099511627776) (hl : zs.length ≤ 1099511627776) :
    Calls Tryz.prog 23 #[.slice a zs.length cap, .int .i64 k] w fun e w' => e = .returned (.int .i64 (k + zs.length)) ∧ Own .u8 w' a (marks k zs.length) ∧ Kept (blkOf a) w w' ∧ SameShape w w' := by
  go_enter Tryz.func23, Tryz.ntmps23
  go_wp2
  go_loopw [1, 5] (fun q i wr => ∃ j : Nat, j ≤ zs.length ∧ i = .int .i64 j ∧ q = .int .i64 (k + j) ∧ (zs ≠ [] → ∃ b off, a = some ⟨b, off, none⟩ ∧ b < wr.heap.size ∧ ∀ t, t < zs.length → wr.cell? ⟨b, off + t, none⟩ = some (.int .u8 (if t < j then (k + t) % 256 else zs.getD t 0)) ∧ wr.frozen? ⟨b, off + t, none⟩ = false) ∧ Kept (blkOf a) w wr ∧ SameShape w wr) (fun _ i _ => zs.length - (intOf i).toNat)
  case atStart => exact ⟨0, Nat.zero_le _, rfl, by simp, fun hz => by simpa using h hz, Kept.refl _ _, SameShape.refl _⟩
  case round =>
    obtain ⟨j, hj, rfl, rfl, hown, hkept, hss⟩ := hrel
    have HSS := hide hss
    clear hss
    by_cases hlt : j < zs.length
    · obtain ⟨b, off, rfl, hb, hc⟩ := hown (by intro e; simp [e] at hlt)
      have hc0 := (hc j hlt).1
      rw [if_neg (by omega)] at hc0
      generalize zs.getD j 0 = z at hc0
      have hf := (hc j hlt).2
      have HC := hide hc
      have HK := hide hkept
      have HH := hide h
      clear hc hkept hown h
      go_wp2
      go_roundw
      case rel => exact ⟨j + 1, by omega, by go_num, by go_num, fun _ => ⟨b, off, rfl, by simpa [World.setCell] using hb, own_step HC.out hlt (by go_num)⟩, HK.out.setCell (p := ⟨b, off + j, none⟩) (fun _ => rfl) _, HSS.out.setCell _ _ _⟩
      case measure => simp [intOf]; omega
    · have hje : j = zs.length := by omega
      go_wp2
      go_ret
      refine ⟨ret_int (by rw [hje]), fun hz => ?_, hkept, HSS.out⟩
      obtain ⟨b, off, e, hb, hc⟩ := hown (by intro e; simp [e, marks] at hz)
      exact ⟨b, off, e, hb, fun t ht => by rw [marks_length] at ht; rw [marks_getD _ _ _ ht]; have := hc t ht; rwa [if_pos (by omega)] at this⟩

end Go.Proofs.YtcknabinmbknaaaGreatDoor
