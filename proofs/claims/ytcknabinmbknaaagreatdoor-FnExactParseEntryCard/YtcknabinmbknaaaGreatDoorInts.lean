/-
  Contracts of the laws' helpers on slices of int64.
-/
import Derived.Test.YtcknabinmbknaaaGreatDoorBytes
namespace Go.Proofs.YtcknabinmbknaaaGreatDoor
open Go.RowKit
set_option linter.unusedVariables false

/-- What is written into a list of n cells of kind i64, from k on. -/
def marks64 (k : Int) (n : Nat) : List Int := (List.range n).map fun (i : Nat) => k + i
theorem marks64_length (k : Int) (n : Nat) : (marks64 k n).length = n := by simp [marks64]
theorem marks64_getD (k : Int) (n i : Nat) (h : i < n) : (marks64 k n).getD i 0 = k + i := by simp [marks64, List.getD_eq_getElem?_getD, h]

theorem Tryz.infoI64 : (Tryz.prog.info? 2).map (fun i => (i.zero, i.size, i.bytes)) = some (some (.int .i64 0), 1, 8) := by kernel_rfl

set_option maxHeartbeats 400000 in
theorem eqInt64S_any (a b : Option Addr) (ca cb : Nat) (xs ys : List Int) (w : World) (ha : Reads .i64 w a xs) (hb : Reads .i64 w b ys) (hl : xs.length ≤ 1048576) (hl2 : ys.length ≤ 1048576) :
    Calls Tryz.prog 120 #[.slice a xs.length ca, .slice b ys.length cb] w fun e w' => e = .returned (.bool (xs == ys)) ∧ ∃ n, w' = w.drewN n := by
  by_cases hlen : xs.length = ys.length
  · have hne : ((xs.length : Int) != (ys.length : Int)) = false := by simp [hlen]
    go_enter Tryz.func120, Tryz.ntmps120
    go_wp2
    go_loopw [5] (fun i wr => ∃ k : Nat, k ≤ xs.length ∧ i = .int .i64 k ∧ xs.take k = ys.take k ∧ ∃ n, wr = w.drewN n) (fun i _ => xs.length - (intOf i).toNat)
    case atStart => exact ⟨0, Nat.zero_le _, rfl, rfl, 0, rfl⟩
    case round =>
      obtain ⟨k, hk, rfl, htk, n, rfl⟩ := hrel
      have HT := hide htk
      clear htk
      by_cases hlt : k < xs.length
      · obtain ⟨b1, o1, rfl, hb1, hc1⟩ := ha (by intro e; simp [e] at hlt)
        obtain ⟨b2, o2, rfl, hb2, hc2⟩ := hb (by intro e; rw [e] at hlen; simp at hlen; simp [hlen] at hlt)
        obtain ⟨x, hx⟩ : ∃ x, x = xs.getD k 0 := ⟨_, rfl⟩
        obtain ⟨y, hy⟩ : ∃ y, y = ys.getD k 0 := ⟨_, rfl⟩
        have c1 : w.cell? ⟨b1, o1 + k, none⟩ = some (.int .i64 x) := by rw [hx]; exact hc1 k hlt
        have c2 : w.cell? ⟨b2, o2 + k, none⟩ = some (.int .i64 y) := by rw [hy]; exact hc2 k (by omega)
        have HX := hide hx
        have HY := hide hy
        clear hc1 hc2 ha hb hx hy
        have hk2 : k < ys.length := by omega
        by_cases heq : x = y
        · have hb : (x != y) = false := by simp [heq]
          have HE := hide heq
          clear heq
          go_wp2
          go_quiet (fail)
          go_wp2
          go_roundw
          case rel => exact ⟨k + 1, by omega, by go_num, take_eq_step hlt hk2 HT.out (by rw [← HX.out, ← HY.out]; exact HE.out), _, rfl⟩
          case measure => simp [intOf]; omega
        · have hb : (x != y) = true := by simp [heq]
          go_wp2
          go_quiet (fail)
          go_wp2
          go_ret
          exact ⟨ret_bool (ne_of_getD (k := k) (by rw [← HX.out, ← HY.out]; exact heq)).symm, _, World.drewN_drewN _ _ _⟩
      · go_wp2
        go_ret
        exact ⟨ret_bool (eq_of_take (k := k) (by omega) (by omega) HT.out).symm, _, rfl⟩
  · have hne : ((xs.length : Int) != (ys.length : Int)) = true := by simp; omega
    go_enter Tryz.func120, Tryz.ntmps120
    go_wp2
    go_ret
    have e : (xs == ys) = false := by simp; intro e; exact hlen (by rw [e])
    exact ⟨ret_bool e.symm, 0, rfl⟩



theorem eqInt64S_b (a b : Option Addr) (ca cb : Nat) (xs : List Int) (w : World) (ha : Reads .i64 w a xs) (hb : Reads .i64 w b xs) (hl : xs.length ≤ 1048576) :
    Calls Tryz.prog 120 #[.slice a xs.length ca, .slice b xs.length cb] w fun e w' => e = .returned (.bool true) ∧ Below w.heap.size w w' := by
  refine (eqInt64S_any a b ca cb xs xs w ha hb hl hl).mono ?_
  rintro e w' ⟨rfl, m, rfl⟩
  exact ⟨ret_bool (by simp), below_drewN (Below.refl _ _) m⟩

set_option maxHeartbeats 400000 in
theorem markInt64S_any (a : Option Addr) (cap : Nat) (zs : List Int) (k : Int) (w : World) (h : Own .i64 w a zs) (hk0 : 0 ≤ k) (hk1 : k ≤ 1099511627776) (hl : zs.length ≤ 1099511627776) :
    Calls Tryz.prog 85 #[.slice a zs.length cap, .int .i64 k] w fun e w' => e = .returned (.int .i64 (k + zs.length)) ∧ Own .i64 w' a (marks64 k zs.length) ∧ Kept (blkOf a) w w' ∧ SameShape w w' := by
  go_enter Tryz.func85, Tryz.ntmps85
  go_wp2
  go_loopw [1, 5] (fun q i wr => ∃ j : Nat, j ≤ zs.length ∧ i = .int .i64 j ∧ q = .int .i64 (k + j) ∧ (zs ≠ [] → ∃ b off, a = some ⟨b, off, none⟩ ∧ b < wr.heap.size ∧ ∀ t, t < zs.length → wr.cell? ⟨b, off + t, none⟩ = some (.int .i64 (if t < j then k + t else zs.getD t 0)) ∧ wr.frozen? ⟨b, off + t, none⟩ = false) ∧ Kept (blkOf a) w wr ∧ SameShape w wr) (fun _ i _ => zs.length - (intOf i).toNat)
  case atStart => exact ⟨0, Nat.zero_le _, rfl, by simp, fun hz => by simpa using h hz, Kept.refl _ _, SameShape.refl _⟩
  case round =>
    obtain ⟨j, hj, rfl, rfl, hown, hkept, hss⟩ := hrel
    have HSS := hide hss
    clear hss
    by_cases hlt : j < zs.length
    · obtain ⟨b, off, rfl, hb, hc⟩ := hown (by intro e; simp [e] at hlt)
      have hc0 := (hc j hlt).1
      rw [if_neg (by omega)] at hc0
      generalize zs.getD j 0 = z at hc0
      have hf := (hc j hlt).2
      have HC := hide hc
      have HK := hide hkept
      have HH := hide h
      clear hc hkept hown h
      go_wp2
      go_roundw
      case rel => exact ⟨j + 1, by omega, by go_num, by go_num, fun _ => ⟨b, off, rfl, by simpa [World.setCell] using hb, own_step HC.out hlt (by go_num)⟩, HK.out.setCell (p := ⟨b, off + j, none⟩) (fun _ => rfl) _, HSS.out.setCell _ _ _⟩
      case measure => simp [intOf]; omega
    · have hje : j = zs.length := by omega
      go_wp2
      go_ret
      refine ⟨ret_int (by rw [hje]), fun hz => ?_, hkept, HSS.out⟩
      obtain ⟨b, off, e, hb, hc⟩ := hown (by intro e; simp [e, marks64] at hz)
      exact ⟨b, off, e, hb, fun t ht => by rw [marks64_length] at ht; rw [marks64_getD _ _ _ ht]; have := hc t ht; rwa [if_pos (by omega)] at this⟩

set_option maxHeartbeats 400000 in
theorem heldInt64S_any (a : Option Addr) (cap n : Nat) (k : Int) (w : World) (h : Reads .i64 w a (marks64 k n)) (hk0 : 0 ≤ k) (hk1 : k ≤ 1099511627776) (hl : n ≤ 1099511627776) :
    Calls Tryz.prog 86 #[.slice a n cap, .int .i64 k] w fun e w' => e = .returned (.int .i64 (k + n)) ∧ w' = w := by
  go_enter Tryz.func86, Tryz.ntmps86
  go_wp2
  go_loop [1, 5] (fun q i => ∃ j : Nat, j ≤ n ∧ i = .int .i64 j ∧ q = .int .i64 (k + j)) (fun _ i => n - (intOf i).toNat)
  case atStart => exact ⟨0, Nat.zero_le _, rfl, by simp⟩
  case round =>
    obtain ⟨j, hj, rfl, rfl⟩ := hrel
    by_cases hlt : j < n
    · obtain ⟨b, off, rfl, hb, hc⟩ := h (by intro e; have := marks64_length k n; rw [e] at this; simp at this; omega)
      have hc0 := hc j (by rw [marks64_length]; exact hlt)
      rw [marks64_getD _ _ _ hlt] at hc0
      have HC := hide hc
      clear hc h
      go_wp2
      go_round
      case rel => exact ⟨j + 1, by omega, by go_num, by go_num⟩
      case measure => simp [intOf]; omega
    · have hje : j = n := by omega
      subst hje
      go_wp2
      go_ret
      exact ⟨rfl, rfl⟩



end Go.Proofs.YtcknabinmbknaaaGreatDoor
