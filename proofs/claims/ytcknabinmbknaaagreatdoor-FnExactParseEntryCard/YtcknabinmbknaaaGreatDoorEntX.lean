/-
  Contracts of the laws' helpers on an entry; an entry that came in is read.
-/
import Derived.Test.YtcknabinmbknaaaGreatDoorEntS
import Derived.Test.YtcknabinmbknaaaGreatDoorEntG
import Derived.Test.YtcknabinmbknaaaGreatDoorIteA
import Derived.Deep.SlicePairs
import Derived.ProofKit
import Derived.ChangeOld
namespace Go.Proofs.YtcknabinmbknaaaGreatDoor
open Go.ChangeShapes Go.WideShapes Go.ChangeAt Go.RowKit
set_option linter.unusedVariables false

/-- A block of four cells that may be written. -/
def Box4 (w : World) (b : Nat) (u0 u1 u2 u3 : Value) : Prop := Four w b u0 u1 u2 u3 ∧ ∀ i, w.frozen? ⟨b, i, none⟩ = false
theorem Box4.new (w : World) (u0 u1 u2 u3 : Value) (t : TypeId) : Box4 (w.alloc (.cells #[u0, u1, u2, u3] t)) w.heap.size u0 u1 u2 u3 := ⟨Four.new w u0 u1 u2 u3 t, fun i => by simp⟩
theorem Box4.below {w w' : World} {b : Nat} {u0 u1 u2 u3 : Value} (h : Box4 w b u0 u1 u2 u3) (hk : Below w.heap.size w w') : Box4 w' b u0 u1 u2 u3 :=
  ⟨h.1.below hk, fun i => (hk.frozen (p := ⟨b, i, none⟩) h.1.lt).trans (h.2 i)⟩




set_option maxHeartbeats 400000 in
theorem eqEntry_same (s : ByteArray) (k z : Int) (a b : Option Addr) (ca cb : Nat) (zs : List Int) (w : World) (ha : Reads .i64 w a zs) (hb : Reads .i64 w b zs) (hl : zs.length ≤ 1048576) :
    Calls Tryz.prog 83 #[.agg #[.string s, .int .i64 k, .int .i64 z, .slice a zs.length ca], .agg #[.string s, .int .i64 k, .int .i64 z, .slice b zs.length cb]] w fun e w' => e = .returned (.bool true) ∧ Below w.heap.size w w' := by
  have HA := hide ha
  have HB := hide hb
  clear ha hb
  have B1 := hide (below_next (below_alloc w (.cells #[.string s, .int .i64 k, .int .i64 z, .slice a zs.length ca] 39)) (below_alloc _ (.cells #[.string s, .int .i64 k, .int .i64 z, .slice b zs.length cb] 39)))
  go_enter Tryz.func83, Tryz.ntmps83
  go_wp2_with fail
  refine (eqInt64S_b a b ca cb zs _ (HA.out.below B1.out) (HB.out.below B1.out) hl).mono ?_
  rintro e w1 ⟨rfl, b1⟩
  have B2 := hide (below_next B1.out b1)
  clear b1 B1
  go_wp2_with fail
  go_ret
  exact ⟨rfl, B2.out⟩


end Go.Proofs.YtcknabinmbknaaaGreatDoor
