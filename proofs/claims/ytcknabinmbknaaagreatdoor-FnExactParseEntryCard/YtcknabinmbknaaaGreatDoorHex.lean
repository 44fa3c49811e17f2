/-
  Contracts of the model's and the program's HexText.
-/
import Derived.Test.YtcknabinmbknaaaGreatDoorBytes
namespace Go.Proofs.YtcknabinmbknaaaGreatDoor
open Go.RowKit
set_option linter.unusedVariables false
set_option maxRecDepth 100000

def hexL : List Int := [48, 49, 50, 51, 52, 53, 54, 55, 56, 57, 97, 98, 99, 100, 101, 102]
/-- Digit i, the highest first. -/
def dg (n : Int) (i : Nat) : Int := n * (16 : Int) ^ i % 4294967296 / 268435456
def hexList (n : Int) : List Int := (List.range 8).map fun i => hexL.getD (dg n i).toNat 0
def hexText (n : Int) : ByteArray := strOfNums (hexList n)

theorem hexList_getD (n : Int) (i : Nat) (hi : i < 8) : (hexList n).getD i 0 = hexL.getD (dg n i).toNat 0 := by
  simp [hexList, List.getD_eq_getElem?_getD, hi]
theorem hex_at : ∀ (d : Nat) (h : d < (⟨#[48, 49, 50, 51, 52, 53, 54, 55, 56, 57, 97, 98, 99, 100, 101, 102]⟩ : ByteArray).size), (((⟨#[48, 49, 50, 51, 52, 53, 54, 55, 56, 57, 97, 98, 99, 100, 101, 102]⟩ : ByteArray)[d]'h).toNat : Int) = hexL.getD d 0 
  | 0, _ | 1, _ | 2, _ | 3, _ | 4, _ | 5, _ | 6, _ | 7, _ | 8, _ | 9, _ | 10, _ | 11, _ | 12, _ | 13, _ | 14, _ | 15, _ => rfl
  | d + 16, h => absurd (show d + 16 < 16 from h) (by omega)

theorem implIsDigest_yes (n : Int) (w : World) (h0 : 0 ≤ n) (h1 : n ≤ 4294967295) :
    Calls Tryz.prog 107 #[.int .i64 n] w fun e w' => e = .returned (.bool true) ∧ w' = w := by
  go_enter Tryz.func107, Tryz.ntmps107
  go_wp2
  go_ret
  exact ⟨rfl, rfl⟩

theorem implIsDigest_no (n : Int) (w : World) (h : n < 0 ∨ 4294967295 < n) :
    Calls Tryz.prog 107 #[.int .i64 n] w fun e w' => e = .returned (.bool false) ∧ w' = w := by
  rcases h with h | h
  · go_enter Tryz.func107, Tryz.ntmps107
    go_wp2
    go_ret
    exact ⟨rfl, rfl⟩
  · have h0 : 0 ≤ n := by omega
    have h1 : ¬ n ≤ 4294967295 := by omega
    go_enter Tryz.func107, Tryz.ntmps107
    go_wp2
    go_ret
    exact ⟨rfl, rfl⟩

theorem dg_step (n : Int) (k : Nat) : n * (16 : Int) ^ k % 4294967296 * 16 % 4294967296 = n * (16 : Int) ^ (k + 1) % 4294967296 := by
  rw [Int.pow_succ, ← Int.mul_assoc]
  generalize n * (16 : Int) ^ k = y
  omega
theorem dg_range (n : Int) (k : Nat) : 0 ≤ n * (16 : Int) ^ k % 4294967296 ∧ n * (16 : Int) ^ k % 4294967296 ≤ 4294967295 := by
  generalize n * (16 : Int) ^ k = y
  omega

theorem rowIs_zero8 (w : World) (t : TypeId) : (w.alloc (.cells #[.int .u8 0, .int .u8 0, .int .u8 0, .int .u8 0, .int .u8 0, .int .u8 0, .int .u8 0, .int .u8 0] t)).rowIs w.heap.size t 8 (fun _ => .int .u8 0) :=
  World.rowIs_alloc w _ t _ (fun i hi => by
    have h8 : i < 8 := hi
    match i, h8 with
    | 0, _ | 1, _ | 2, _ | 3, _ | 4, _ | 5, _ | 6, _ | 7, _ => rfl)

set_option maxHeartbeats 400000 in
theorem implHexText_ok (n : Int) (w : World) (h0 : 0 ≤ n) (h1 : n ≤ 4294967295) :
    Calls Tryz.prog 112 #[.int .i64 n] w fun e w' => e = .returned (.agg #[.int .i64 0, .string (hexText n)]) ∧ Below w.heap.size w w' := by
  go_enter Tryz.func112, Tryz.ntmps112
  go_wp2_with (go_at_call 107; refine (implIsDigest_yes _ _ h0 h1).mono ?_; rintro e w' ⟨rfl, rfl⟩)
  go_loopw [3, 5, 12] (fun h _ i wr => ∃ k : Nat, ∃ x : Int, k ≤ 8 ∧ i = .int .i64 k ∧ h = .int .u32 x ∧ x = n * (16 : Int) ^ k % 4294967296 ∧ wr.cell? ⟨w.heap.size, 0, none⟩ = some (.int .i64 0) ∧ wr.cell? ⟨w.heap.size, 1, none⟩ = some (.string ⟨#[]⟩) ∧ wr.frozen? ⟨w.heap.size, 0, none⟩ = false ∧ wr.frozen? ⟨w.heap.size, 1, none⟩ = false ∧ wr.rowIs (w.heap.size + 1) 157 8 (fun j => if j < k then .int .u8 ((hexList n).getD j 0) else .int .u8 0) ∧ Below w.heap.size w wr) (fun _ _ i _ => 8 - (intOf i).toNat)
  case atStart =>
    refine ⟨0, n, Nat.zero_le _, rfl, rfl, by simp; omega, by simp, by simp, by simp, by simp, ?_, ?_⟩
    · have := (rowIs_zero8 (w.alloc (Obj.cells #[Value.int IntKind.i64 0, Value.string ⟨#[]⟩] 35)) 157).congr (g := fun j => if j < 0 then .int .u8 ((hexList n).getD j 0) else .int .u8 0) (by simp)
      simpa using this
    · exact ((Below.refl _ _).alloc (Nat.le_refl _) _).alloc (by simp) _
  case round =>
    obtain ⟨k, x, hk, rfl, rfl, hxe, q0, q1, q2, q3, hrow, hbel⟩ := hrel
    have hx01 := dg_range n k
    rw [← hxe] at hx01
    by_cases hlt : k < 8
    · have hc0 := hrow.cell hlt
      rw [if_neg (by omega)] at hc0
      have hf := hrow.frozen k
      have HR := hide hrow
      have HB := hide hbel
      have HX := hide hxe
      clear hrow hbel hxe
      go_wp2
      go_roundw
      case rel =>
        refine ⟨k + 1, _, by omega, by go_num, rfl, by rw [← dg_step, ← HX.out], ?_, ?_, ?_, ?_, row_step2 (f := fun j => .int .u8 ((hexList n).getD j 0)) (z := fun _ => .int .u8 0) HR.out ?_, HB.out.setCell (by simp) _⟩
        · exact cell_set_far (by omega) q0
        · exact cell_set_far (by omega) q1
        · rw [World.frozen?_setCell]; exact q2
        · rw [World.frozen?_setCell]; exact q3
        · rw [hexList_getD n k hlt, hex_at]
          unfold dg
          rw [← HX.out]
      case measure => simp [intOf]; omega
    · have hconv := run_convert_bytes_arg (P := Tryz.prog) wr 22 5 Tryz.underlying22 Tryz.underlying5 (w.heap.size + 1) 0 8 8 (hexList n) (by simp [hexList]) (fun i hi => by rw [Nat.zero_add, hrow.cell hi, if_pos (by omega)]) 9 Tryz.underlying9
      have HR := hide hrow
      have HB := hide hbel
      have HX := hide hxe
      clear hrow hbel hxe
      go_wp2
      exact bodyPost_ret (v := .agg #[.int .i64 0, .string (hexText n)]) (by simp [results, Tryz.results112, go_sem, q0, q1, hexText]) rfl ⟨rfl, (HB.out.setCell (Nat.le_refl _) _).setCell (Nat.le_refl _) _⟩

set_option maxHeartbeats 400000 in
theorem implHexText_no (n : Int) (w : World) (h : n < 0 ∨ 4294967295 < n) :
    Calls Tryz.prog 112 #[.int .i64 n] w fun e w' => e = .returned (.agg #[.int .i64 3, .string ⟨#[]⟩]) ∧ Below w.heap.size w w' := by
  go_enter Tryz.func112, Tryz.ntmps112
  go_wp2_with (go_at_call 107; refine (implIsDigest_no _ _ h).mono ?_; rintro e w' ⟨rfl, rfl⟩)
  exact bodyPost_ret (v := .agg #[.int .i64 3, .string ⟨#[]⟩]) (by simp [results, Tryz.results112, go_sem]) rfl ⟨rfl, (Below.refl _ _).alloc (Nat.le_refl _) _⟩

theorem specl1Digest_yes (n : Int) (w : World) (h0 : 0 ≤ n) (h1 : n ≤ 4294967295) :
    Calls Tryz.prog 100 #[.int .i64 n] w fun e w' => e = .returned (.bool true) ∧ w' = w := by
  go_enter Tryz.func100, Tryz.ntmps100
  go_wp2
  go_ret
  exact ⟨rfl, rfl⟩

theorem specl1Digest_no (n : Int) (w : World) (h : n < 0 ∨ 4294967295 < n) :
    Calls Tryz.prog 100 #[.int .i64 n] w fun e w' => e = .returned (.bool false) ∧ w' = w := by
  rcases h with h | h
  · go_enter Tryz.func100, Tryz.ntmps100
    go_wp2
    go_ret
    exact ⟨rfl, rfl⟩
  · have h0 : 0 ≤ n := by omega
    have h1 : ¬ n ≤ 4294967295 := by omega
    go_enter Tryz.func100, Tryz.ntmps100
    go_wp2
    go_ret
    exact ⟨rfl, rfl⟩

theorem i64_and15 (n : Int) : bits .and .i64 n 15 = n % 16 := by
  have h15 : (BitVec.ofInt 64 15).toNat = 2 ^ 4 - 1 := by decide
  have key : (BitVec.ofInt 64 n &&& BitVec.ofInt 64 15).toNat = (n % ((2 ^ 64 : Nat) : Int)).toNat % 2 ^ 4 := by
    rw [BitVec.toNat_and, BitVec.toNat_ofInt, h15, Nat.and_two_pow_sub_one_eq_mod]
  show IntKind.i64.wrap ((BitVec.ofInt 64 n &&& BitVec.ofInt 64 15).toNat : Nat) = n % 16
  rw [key, IntKind.wrap_i64]
  omega

theorem dg0 (n : Int) (h0 : 0 ≤ n) (h1 : n ≤ 4294967295) : dg n 0 = n / 268435456 % 16 := by simp only [dg]; omega
theorem dg1 (n : Int) (h0 : 0 ≤ n) (h1 : n ≤ 4294967295) : dg n 1 = n / 16777216 % 16 := by simp only [dg]; omega
theorem dg2 (n : Int) (h0 : 0 ≤ n) (h1 : n ≤ 4294967295) : dg n 2 = n / 1048576 % 16 := by simp only [dg]; omega
theorem dg3 (n : Int) (h0 : 0 ≤ n) (h1 : n ≤ 4294967295) : dg n 3 = n / 65536 % 16 := by simp only [dg]; omega
theorem dg4 (n : Int) (h0 : 0 ≤ n) (h1 : n ≤ 4294967295) : dg n 4 = n / 4096 % 16 := by simp only [dg]; omega
theorem dg5 (n : Int) (h0 : 0 ≤ n) (h1 : n ≤ 4294967295) : dg n 5 = n / 256 % 16 := by simp only [dg]; omega
theorem dg6 (n : Int) (h0 : 0 ≤ n) (h1 : n ≤ 4294967295) : dg n 6 = n / 16 % 16 := by simp only [dg]; omega
theorem dg7 (n : Int) (h0 : 0 ≤ n) (h1 : n ≤ 4294967295) : dg n 7 = n % 16 := by simp only [dg]; omega

theorem hex_push {n : Int} {k : Nat} {x : Int} (hk : k < 8) (hx : x = hexL.getD (dg n k).toNat 0) :
    ((hexList n).take k).map (Value.int .u8) ++ [Value.int .u8 x] = ((hexList n).take (k + 1)).map (Value.int .u8) := by
  have hl : k < (hexList n).length := by simpa [hexList] using hk
  rw [List.take_succ_eq_append_getElem hl, List.map_append]
  have : (hexList n)[k] = x := by
    rw [hx, ← hexList_getD n k hk]; simp [List.getD_eq_getElem?_getD, hl]
  simp [this]

set_option maxHeartbeats 1600000 in
theorem specl1Hex_any (n : Int) (w : World) (h0 : 0 ≤ n) (h1 : n ≤ 4294967295) :
    Calls Tryz.prog 121 #[.int .i64 n] w fun e w' => e = .returned (.string (hexText n)) ∧ Below w.heap.size w w' := by
  obtain ⟨i0, hi, hz0, hz1, hz2⟩ := info_parts Tryz.infoU8
  go_enter Tryz.func121, Tryz.ntmps121
  go_wp2
  go_loopw [3, 4] (fun v i wr => ∃ k : Nat, k ≤ 8 ∧ i = .int .i64 (7 - k) ∧ wr.ownsRow w.heap.size 5 1 v k (((hexList n).take k).map (Value.int .u8)) ∧ Below w.heap.size w wr) (fun _ i _ => (intOf i + 1).toNat)
  case atStart => exact ⟨0, Nat.zero_le _, rfl, World.ownsRow_made w #[] 0 (Nat.le_refl _) (Nat.zero_le _) rfl, (Below.refl _ _).alloc (Nat.le_refl _) _⟩
  case round =>
    obtain ⟨k, hk, rfl, hown, hbel⟩ := hrel
    have hand := i64_and15
    have hsz := hbel.size
    by_cases hlt : k < 8
    · rcases (show k = 0 ∨ k = 1 ∨ k = 2 ∨ k = 3 ∨ k = 4 ∨ k = 5 ∨ k = 6 ∨ k = 7 from by omega) with rfl | rfl | rfl | rfl | rfl | rfl | rfl | rfl
      · go_wp2_with (at_builtin; refine wpList_append_one rfl (.tmp 10) (.tmp 18) 22 rfl w.heap.size 5 i0 (.int .u8 0) 1 1 Tryz.underlying22 hi hz0 hz1 hz2 rfl (by decide) _ _ _ rfl hown rfl rfl ?_ ?_ ?_ hsz ?_)
        · first | rfl | (intro u hu; simp at hu; subst hu; rfl)
        · decide
        · decide
        · intro v' w' hown' hkept
          have hbel' := Kept.below_own hbel hsz hown hkept
          rw [hex_at, ← dg0 n h0 h1] at hown'
          have hown2 : w'.ownsRow w.heap.size 5 1 v' 1 (((hexList n).take 1).map (Value.int .u8)) := by rw [← hex_push (n := n) (k := 0) (by decide) rfl]; exact hown'
          have H1 := hide hown2
          have H2 := hide hbel'
          clear hown2 hbel' hown' hkept hown hbel
          go_wp2
          go_roundw
          case rel => exact ⟨1, by decide, by simp, H1.out, H2.out⟩
          case measure => simp [intOf]
      · go_wp2_with (at_builtin; refine wpList_append_one rfl (.tmp 10) (.tmp 18) 22 rfl w.heap.size 5 i0 (.int .u8 0) 1 1 Tryz.underlying22 hi hz0 hz1 hz2 rfl (by decide) _ _ _ rfl hown rfl rfl ?_ ?_ ?_ hsz ?_)
        · first | rfl | (intro u hu; simp at hu; subst hu; rfl)
        · decide
        · decide
        · intro v' w' hown' hkept
          have hbel' := Kept.below_own hbel hsz hown hkept
          rw [hex_at, ← dg1 n h0 h1] at hown'
          have hown2 : w'.ownsRow w.heap.size 5 1 v' 2 (((hexList n).take 2).map (Value.int .u8)) := by rw [← hex_push (n := n) (k := 1) (by decide) rfl]; exact hown'
          have H1 := hide hown2
          have H2 := hide hbel'
          clear hown2 hbel' hown' hkept hown hbel
          go_wp2
          go_roundw
          case rel => exact ⟨2, by decide, by simp, H1.out, H2.out⟩
          case measure => simp [intOf]
      · go_wp2_with (at_builtin; refine wpList_append_one rfl (.tmp 10) (.tmp 18) 22 rfl w.heap.size 5 i0 (.int .u8 0) 1 1 Tryz.underlying22 hi hz0 hz1 hz2 rfl (by decide) _ _ _ rfl hown rfl rfl ?_ ?_ ?_ hsz ?_)
        · first | rfl | (intro u hu; simp at hu; subst hu; rfl)
        · decide
        · decide
        · intro v' w' hown' hkept
          have hbel' := Kept.below_own hbel hsz hown hkept
          rw [hex_at, ← dg2 n h0 h1] at hown'
          have hown2 : w'.ownsRow w.heap.size 5 1 v' 3 (((hexList n).take 3).map (Value.int .u8)) := by rw [← hex_push (n := n) (k := 2) (by decide) rfl]; exact hown'
          have H1 := hide hown2
          have H2 := hide hbel'
          clear hown2 hbel' hown' hkept hown hbel
          go_wp2
          go_roundw
          case rel => exact ⟨3, by decide, by simp, H1.out, H2.out⟩
          case measure => simp [intOf]
      · go_wp2_with (at_builtin; refine wpList_append_one rfl (.tmp 10) (.tmp 18) 22 rfl w.heap.size 5 i0 (.int .u8 0) 1 1 Tryz.underlying22 hi hz0 hz1 hz2 rfl (by decide) _ _ _ rfl hown rfl rfl ?_ ?_ ?_ hsz ?_)
        · first | rfl | (intro u hu; simp at hu; subst hu; rfl)
        · decide
        · decide
        · intro v' w' hown' hkept
          have hbel' := Kept.below_own hbel hsz hown hkept
          rw [hex_at, ← dg3 n h0 h1] at hown'
          have hown2 : w'.ownsRow w.heap.size 5 1 v' 4 (((hexList n).take 4).map (Value.int .u8)) := by rw [← hex_push (n := n) (k := 3) (by decide) rfl]; exact hown'
          have H1 := hide hown2
          have H2 := hide hbel'
          clear hown2 hbel' hown' hkept hown hbel
          go_wp2
          go_roundw
          case rel => exact ⟨4, by decide, by simp, H1.out, H2.out⟩
          case measure => simp [intOf]
      · go_wp2_with (at_builtin; refine wpList_append_one rfl (.tmp 10) (.tmp 18) 22 rfl w.heap.size 5 i0 (.int .u8 0) 1 1 Tryz.underlying22 hi hz0 hz1 hz2 rfl (by decide) _ _ _ rfl hown rfl rfl ?_ ?_ ?_ hsz ?_)
        · first | rfl | (intro u hu; simp at hu; subst hu; rfl)
        · decide
        · decide
        · intro v' w' hown' hkept
          have hbel' := Kept.below_own hbel hsz hown hkept
          rw [hex_at, ← dg4 n h0 h1] at hown'
          have hown2 : w'.ownsRow w.heap.size 5 1 v' 5 (((hexList n).take 5).map (Value.int .u8)) := by rw [← hex_push (n := n) (k := 4) (by decide) rfl]; exact hown'
          have H1 := hide hown2
          have H2 := hide hbel'
          clear hown2 hbel' hown' hkept hown hbel
          go_wp2
          go_roundw
          case rel => exact ⟨5, by decide, by simp, H1.out, H2.out⟩
          case measure => simp [intOf]
      · go_wp2_with (at_builtin; refine wpList_append_one rfl (.tmp 10) (.tmp 18) 22 rfl w.heap.size 5 i0 (.int .u8 0) 1 1 Tryz.underlying22 hi hz0 hz1 hz2 rfl (by decide) _ _ _ rfl hown rfl rfl ?_ ?_ ?_ hsz ?_)
        · first | rfl | (intro u hu; simp at hu; subst hu; rfl)
        · decide
        · decide
        · intro v' w' hown' hkept
          have hbel' := Kept.below_own hbel hsz hown hkept
          rw [hex_at, ← dg5 n h0 h1] at hown'
          have hown2 : w'.ownsRow w.heap.size 5 1 v' 6 (((hexList n).take 6).map (Value.int .u8)) := by rw [← hex_push (n := n) (k := 5) (by decide) rfl]; exact hown'
          have H1 := hide hown2
          have H2 := hide hbel'
          clear hown2 hbel' hown' hkept hown hbel
          go_wp2
          go_roundw
          case rel => exact ⟨6, by decide, by simp, H1.out, H2.out⟩
          case measure => simp [intOf]
      · go_wp2_with (at_builtin; refine wpList_append_one rfl (.tmp 10) (.tmp 18) 22 rfl w.heap.size 5 i0 (.int .u8 0) 1 1 Tryz.underlying22 hi hz0 hz1 hz2 rfl (by decide) _ _ _ rfl hown rfl rfl ?_ ?_ ?_ hsz ?_)
        · first | rfl | (intro u hu; simp at hu; subst hu; rfl)
        · decide
        · decide
        · intro v' w' hown' hkept
          have hbel' := Kept.below_own hbel hsz hown hkept
          rw [hex_at, ← dg6 n h0 h1] at hown'
          have hown2 : w'.ownsRow w.heap.size 5 1 v' 7 (((hexList n).take 7).map (Value.int .u8)) := by rw [← hex_push (n := n) (k := 6) (by decide) rfl]; exact hown'
          have H1 := hide hown2
          have H2 := hide hbel'
          clear hown2 hbel' hown' hkept hown hbel
          go_wp2
          go_roundw
          case rel => exact ⟨7, by decide, by simp, H1.out, H2.out⟩
          case measure => simp [intOf]
      · go_wp2_with (at_builtin; refine wpList_append_one rfl (.tmp 10) (.tmp 18) 22 rfl w.heap.size 5 i0 (.int .u8 0) 1 1 Tryz.underlying22 hi hz0 hz1 hz2 rfl (by decide) _ _ _ rfl hown rfl rfl ?_ ?_ ?_ hsz ?_)
        · first | rfl | (intro u hu; simp at hu; subst hu; rfl)
        · decide
        · decide
        · intro v' w' hown' hkept
          have hbel' := Kept.below_own hbel hsz hown hkept
          rw [hex_at, ← dg7 n h0 h1] at hown'
          have hown2 : w'.ownsRow w.heap.size 5 1 v' 8 (((hexList n).take 8).map (Value.int .u8)) := by rw [← hex_push (n := n) (k := 7) (by decide) rfl]; exact hown'
          have H1 := hide hown2
          have H2 := hide hbel'
          clear hown2 hbel' hown' hkept hown hbel
          go_wp2
          go_roundw
          case rel => exact ⟨8, by decide, by simp, H1.out, H2.out⟩
          case measure => simp [intOf]
    · have hk8 : k = 8 := by omega
      subst hk8
      obtain ⟨g, cap, rfl, hg, hgl, hcell, hfz⟩ := ownsRow_ints hown (by simp [hexList]) (by decide)
      have e8 : (hexList n).take 8 = hexList n := List.take_of_length_le (by simp [hexList])
      have hconv := run_convert_bytes_arg (P := Tryz.prog) wr 22 5 Tryz.underlying22 Tryz.underlying5 g 0 8 cap (hexList n) (by simp [hexList]) (fun i hi => by rw [Nat.zero_add, hcell i hi, e8]) 9 Tryz.underlying9
      clear hown hcell hfz e8 hand
      go_wp2
      go_ret
      exact ⟨rfl, hbel⟩



end Go.Proofs.YtcknabinmbknaaaGreatDoor
