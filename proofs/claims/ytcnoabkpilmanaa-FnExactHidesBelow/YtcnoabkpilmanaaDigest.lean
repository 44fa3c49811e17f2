/-
  Contracts of the model's and the program's DigestOf.
-/
import Derived.Test.YtcnoabkpilmanaaBytes
namespace Go.Proofs.Ytcnoabkpilmanaa
open Go.RowKit
set_option linter.unusedVariables false

/-- One byte of a digest, as both texts reckon it. -/
def fnvStep (h z : Int) : Int := bits BinOp.xor IntKind.u32 h z * 16777619 % 4294967296
def fnv (zs : List Int) : Int := zs.foldl fnvStep 2166136261
/-- The digest of the bytes zs. -/
def digest (zs : List Int) : Int := wrap64 (bits BinOp.xor IntKind.u32 (fnv zs) ((zs.length : Int) * 65536 % 4294967296))
theorem fnv_step {zs : List Int} {k : Nat} {z : Int} (hk : k < zs.length) (hz : zs.getD k 0 = z) : fnv (zs.take (k + 1)) = fnvStep (fnv (zs.take k)) z := by
  unfold fnv
  rw [List.take_succ_eq_append_getElem hk, List.foldl_append]
  simp [List.getD_eq_getElem?_getD, hk] at hz
  simp [hz]



theorem bits_u32 (op : BinOp) (x y : Int) : 0 ≤ bits op .u32 x y ∧ bits op .u32 x y < 4294967296 := by
  unfold bits
  simp only [IntKind.wrap_u32]
  omega
theorem digest_range (zs : List Int) : 0 ≤ digest zs ∧ digest zs ≤ 4294967295 := by
  have h := bits_u32 .xor (fnv zs) ((zs.length : Int) * 65536 % 4294967296)
  unfold digest wrap64
  omega

end Go.Proofs.Ytcnoabkpilmanaa
