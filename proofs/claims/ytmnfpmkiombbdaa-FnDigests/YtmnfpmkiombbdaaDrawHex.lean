/-
  The model's draw of a number for HexText; facts on digests and on texts of numbers.
-/
import Derived.Test.YtmnfpmkiombbdaaDraw
import Derived.Test.YtmnfpmkiombbdaaDigest
import Derived.Test.YtmnfpmkiombbdaaParse
import Derived.Test.YtmnfpmkiombbdaaIntsR
namespace Go.Proofs.Ytmnfpmkiombbdaa
open Go.RowKit
set_option linter.unusedVariables false

theorem bits_u32 (op : BinOp) (x y : Int) : 0 ≤ bits op .u32 x y ∧ bits op .u32 x y < 4294967296 := by
  unfold bits
  simp only [IntKind.wrap_u32]
  omega
theorem digest_range (zs : List Int) : 0 ≤ digest zs ∧ digest zs ≤ 4294967295 := by
  have h := bits_u32 .xor (fnv zs) ((zs.length : Int) * 65536 % 4294967296)
  unfold digest wrap64
  omega

theorem hexText_size (n : Int) : (hexText n).size = 8 := by unfold hexText; rw [strOfNums_size]; simp [hexList]
theorem hv_digit : ∀ d : Fin 16, hv ((UInt8.ofNat (hexL.getD d.val 0).toNat).toNat : Int) = some (d.val : Int) := by decide
theorem hv_dg (d : Int) (h0 : 0 ≤ d) (h1 : d < 16) : hv ((UInt8.ofNat (hexL.getD d.toNat 0).toNat).toNat : Int) = some d := by
  have := hv_digit ⟨d.toNat, by omega⟩
  simp only at this
  rw [this]
  congr 1
  omega
theorem pv_hex (n : Int) (h0 : 0 ≤ n) (h1 : n ≤ 4294967295) : pv (hexText n).data.toList = some n := by
  have e : (hexText n).data.toList = (hexList n).map fun z => UInt8.ofNat z.toNat := rfl
  have e2 : hexList n = [hexL.getD (dg n 0).toNat 0, hexL.getD (dg n 1).toNat 0, hexL.getD (dg n 2).toNat 0, hexL.getD (dg n 3).toNat 0, hexL.getD (dg n 4).toNat 0, hexL.getD (dg n 5).toNat 0, hexL.getD (dg n 6).toNat 0, hexL.getD (dg n 7).toNat 0] := rfl
  rw [e, e2]
  simp only [List.map_cons, List.map_nil, pv, List.foldl_cons, List.foldl_nil]
  have k0 := dg0 n h0 h1
  have k1 := dg1 n h0 h1
  have k2 := dg2 n h0 h1
  have k3 := dg3 n h0 h1
  have k4 := dg4 n h0 h1
  have k5 := dg5 n h0 h1
  have k6 := dg6 n h0 h1
  have k7 := dg7 n h0 h1
  simp only [pvStep, Option.bind_some, hv_dg (dg n 0) (by omega) (by omega), hv_dg (dg n 1) (by omega) (by omega), hv_dg (dg n 2) (by omega) (by omega), hv_dg (dg n 3) (by omega) (by omega), hv_dg (dg n 4) (by omega) (by omega), hv_dg (dg n 5) (by omega) (by omega), hv_dg (dg n 6) (by omega) (by omega), hv_dg (dg n 7) (by omega) (by omega), Option.map_some]
  congr 1
  omega
theorem pvValue_hex (n : Int) (h0 : 0 ≤ n) (h1 : n ≤ 4294967295) : pvValue (hexText n) = n := by
  unfold pvValue
  rw [if_pos (hexText_size n), pv_hex n h0 h1]
  rfl

set_option maxHeartbeats 800000 in
theorem drawHexText_any (a : Option Addr) (cap : Nat) (zs : List Int) (w : World) (h : Reads .u8 w a zs) (hu : U8 zs) (hl : zs.length ≤ 1048576) :
    Calls Try.prog 11 #[.slice a zs.length cap] w fun e w' => ∃ v, e = .returned (.int .i64 v) ∧ Below w.heap.size w w' := by
  have HR := hide h
  have HU := hide hu
  clear h hu
  go_enter Try.func11, Try.ntmps11
  go_wp2_with fail
  refine (l1Source_any a cap zs _ HR.out).mono ?_
  rintro e w1 ⟨rfl, s1, z1, b1⟩
  have S1 := hide s1
  have B1 := hide b1
  clear s1 b1 z1
  generalize hp : w.heap.size = p at *
  have HP := hide hp
  clear hp
  go_wp2_with fail
  refine (l1Some_any p 3 zs _ _ S1.out HU.out (by decide) (by decide) hl (by decide) S1.out.lt).mono ?_
  rintro e w2 ⟨av, cv, ds, rfl, hds, hU, hown, s2, k2⟩
  have S2 := hide s2
  have B2 := hide (B1.out.trans (k2.below (B := p) (Nat.le_of_lt S1.out.lt) (fun b hb e => by omega)))
  have R2 : Hid (Reads .u8 w2 av ds) := (ownsRow_own hown hds.symm).reads
  have U2 := hide hU
  have D2 := hide hds
  clear s2 k2 S1 B1 hown hU hds
  go_wp2_with fail
  have hcall := specDigestOf_any av cv ds w2 R2.out U2.out (by have := D2.out; omega)
  rw [D2.out] at hcall
  refine hcall.mono ?_
  rintro e w2' ⟨rfl, rfl⟩
  go_wp2_with fail
  refine (l1Next_any p zs _ 99 _ S2.out HU.out (by decide) (by decide) (by decide) (by decide) hl).mono ?_
  rintro e w3 ⟨r2, rfl, r20, r21, s3, k3⟩
  have S3 := hide s3
  have B3 := hide (B2.out.trans (k3.below (B := p) (Nat.le_of_lt S2.out.lt) (fun b hb e => by omega)))
  clear s3 k3 S2 B2
  go_wp2_with fail
  have hp3 := S3.out.lt
  refine (l1Pick_any p w3.heap.size 5 5 [digest ds, r2, -1, 4294967295, 4294967296] zs _ _ (S3.out.below (below_alloc _ _)) HU.out (by decide) (by decide) hl (by decide) (by decide) rfl (by omega) (by simp) (cells5 _ _ _ _ _ _ _)).mono ?_
  rintro e w4 ⟨v, hv, rfl, s4, k4⟩
  have B4 := hide ((B3.out.trans ((below_alloc w3 (.cells #[.int .i64 (digest ds), .int .i64 r2, .int .i64 (-1), .int .i64 4294967295, .int .i64 4294967296] 2)).mono (Nat.le_of_lt hp3))).trans (k4.below (B := p) (by simp; omega) (fun b hb e => by omega)))
  clear s4 k4 S3 B3 hv
  go_wp2_with fail
  go_ret
  exact ⟨_, rfl, by rw [HP.out]; exact B4.out⟩

end Go.Proofs.Ytmnfpmkiombbdaa
