/-
  Contracts of the laws' helpers on ManifestResult.
-/
import Derived.Test.YtokcibegjhfofalDoorManN
import Derived.Test.YtokcibegjhfofalDoorIntsR
namespace Go.Proofs.YtokcibegjhfofalDoor
open Go.RowKit
set_option linter.unusedVariables false
set_option maxRecDepth 100000

set_option maxHeartbeats 800000 in
theorem eqManifestR_same (s : ByteArray) (a b : Option Addr) (ca cb : Nat) (zs : List Int) (w : World) (ha : Reads .i64 w a zs) (hb : Reads .i64 w b zs) (hl : zs.length ≤ 1048576) :
    Calls Tryd.prog 16 #[.agg #[.string s, .slice a zs.length ca], .agg #[.string s, .slice b zs.length cb]] w fun e w' => e = .returned (.bool true) ∧ Below w.heap.size w w' := by
  have HA := hide ha
  have HB := hide hb
  clear ha hb
  have B1 := hide (below_next (below_alloc w (.cells #[.string s, .slice a zs.length ca] 24)) (below_alloc _ (.cells #[.string s, .slice b zs.length cb] 24)))
  go_enter Tryd.func16, Tryd.ntmps16
  go_wp2_with fail
  refine (eqInt64S_b a b ca cb zs _ (HA.out.below B1.out) (HB.out.below B1.out) hl).mono ?_
  rintro e w1 ⟨rfl, b1⟩
  have B2 := hide (below_next B1.out b1)
  clear b1 B1
  go_wp2_with fail
  go_ret
  exact ⟨rfl, B2.out⟩
set_option maxHeartbeats 800000 in
theorem eqManRes_same (q : Int) (s : ByteArray) (a b : Option Addr) (ca cb : Nat) (zs : List Int) (w : World) (ha : Reads .i64 w a zs) (hb : Reads .i64 w b zs) (hl : zs.length ≤ 1048576) :
    Calls Tryd.prog 6 #[.agg #[.int .i64 q, .string s, .slice a zs.length ca], .agg #[.int .i64 q, .string s, .slice b zs.length cb]] w fun e w' => e = .returned (.bool true) ∧ Below w.heap.size w w' := by
  have HA := hide ha
  have HB := hide hb
  clear ha hb
  have B1 := hide (below_next (below_alloc w (.cells #[.int .i64 q, .string s, .slice a zs.length ca] 26)) (below_alloc _ (.cells #[.int .i64 q, .string s, .slice b zs.length cb] 26)))
  go_enter Tryd.func6, Tryd.ntmps6
  go_wp2_with fail
  refine (eqManifestR_same s a b ca cb zs _ (HA.out.below B1.out) (HB.out.below B1.out) hl).mono ?_
  rintro e w1 ⟨rfl, b1⟩
  have B2 := hide (below_next B1.out b1)
  clear b1 B1
  go_wp2_with fail
  go_ret
  exact ⟨rfl, B2.out⟩

set_option maxHeartbeats 800000 in
theorem markMan_any (s : ByteArray) (B T : Nat) (a : Option Addr) (c : Nat) (ds : List Int) (k : Int) (w : World) (h : G1 B T w (.slice a ds.length c) ds) (hk0 : 0 ≤ k) (hk1 : k ≤ 1048576) (hl : ds.length ≤ 1048576) :
    Calls Tryd.prog 17 #[.agg #[.string s, .slice a ds.length c], .int .i64 k] w fun e w' => e = .returned (.int .i64 (k + ds.length)) ∧ G1 B T w' (.slice a ds.length c) (marks64 k ds.length) ∧ Kept (fun b => B ≤ b ∧ b < T) w w' := by
  have HG := hide h
  clear h
  go_enter Tryd.func17, Tryd.ntmps17
  go_wp2_with fail
  refine (markInt64S_any a c ds k _ (HG.out.below (below_alloc _ _)).own hk0 (by omega) (by omega)).mono ?_
  rintro e w1 ⟨rfl, o1, k1, s1⟩
  have O1 := hide o1
  have K1 := hide k1
  have S1 := hide s1
  clear o1 k1 s1
  go_wp2_with fail
  go_ret
  refine ⟨rfl, (HG.out.below (below_alloc _ _)).mark (marks64_length _ _) O1.out S1.out, ((Kept.refl _ _).alloc _).trans (K1.out.mono (fun b hb hS => ?_))⟩
  obtain ⟨h1, h2⟩ := HG.out
  have e : (Value.slice a ds.length c).ownBlock = some b := by
    cases a with
    | none => simp [blkOf] at hS
    | some x => simpa [blkOf, Value.ownBlock] using hS
  exact ⟨(h1.lt b e).1, h2 b e⟩
set_option maxHeartbeats 800000 in
theorem markManRes_any (q : Int) (s : ByteArray) (B T : Nat) (a : Option Addr) (c : Nat) (ds : List Int) (k : Int) (w : World) (h : G1 B T w (.slice a ds.length c) ds) (hk0 : 0 ≤ k) (hk1 : k ≤ 1048576) (hl : ds.length ≤ 1048576) :
    Calls Tryd.prog 7 #[.agg #[.int .i64 q, .string s, .slice a ds.length c], .int .i64 k] w fun e w' => e = .returned (.int .i64 (k + ds.length)) ∧ G1 B T w' (.slice a ds.length c) (marks64 k ds.length) ∧ Kept (fun b => B ≤ b ∧ b < T) w w' := by
  have HG := hide h
  clear h
  go_enter Tryd.func7, Tryd.ntmps7
  go_wp2_with fail
  refine (markMan_any s B T a c ds k _ (HG.out.below (below_alloc _ _)) hk0 hk1 hl).mono ?_
  rintro e w1 ⟨rfl, g1, k1⟩
  have G := hide g1
  have K := hide (((Kept.refl _ _).alloc _).trans k1)
  clear g1 k1
  go_wp2_with fail
  go_ret
  exact ⟨rfl, G.out, K.out⟩

set_option maxHeartbeats 800000 in
theorem heldMan_any (s : ByteArray) (a : Option Addr) (c n : Nat) (k : Int) (w : World) (h : Reads .i64 w a (marks64 k n)) (hk0 : 0 ≤ k) (hk1 : k ≤ 1048576) (hl : n ≤ 1048576) :
    Calls Tryd.prog 18 #[.agg #[.string s, .slice a n c], .int .i64 k] w fun e w' => e = .returned (.int .i64 (k + n)) ∧ Below w.heap.size w w' := by
  have HG := hide h
  clear h
  have hk2 : ¬ (k + (n : Int)) < 0 := by omega
  go_enter Tryd.func18, Tryd.ntmps18
  go_wp2_with fail
  refine (heldInt64S_any a c n k _ (HG.out.below (below_alloc _ _)) hk0 (by omega) (by omega)).mono ?_
  rintro e w1 ⟨rfl, rfl⟩
  go_wp2_with fail
  go_ret
  exact ⟨rfl, below_alloc _ _⟩
set_option maxHeartbeats 800000 in
theorem heldManRes_any (q : Int) (s : ByteArray) (a : Option Addr) (c n : Nat) (k : Int) (w : World) (h : Reads .i64 w a (marks64 k n)) (hk0 : 0 ≤ k) (hk1 : k ≤ 1048576) (hl : n ≤ 1048576) :
    Calls Tryd.prog 8 #[.agg #[.int .i64 q, .string s, .slice a n c], .int .i64 k] w fun e w' => e = .returned (.int .i64 (k + n)) ∧ Below w.heap.size w w' := by
  have HG := hide h
  clear h
  have hk2 : ¬ (k + (n : Int)) < 0 := by omega
  have B0 := hide (below_alloc w (.cells #[.int .i64 q, .string s, .slice a n c] 26))
  go_enter Tryd.func8, Tryd.ntmps8
  go_wp2_with fail
  refine (heldMan_any s a c n k _ (HG.out.below B0.out) hk0 hk1 hl).mono ?_
  rintro e w1 ⟨rfl, b1⟩
  have B1 := hide (below_next B0.out b1)
  clear b1
  go_wp2_with fail
  go_ret
  exact ⟨rfl, B1.out⟩

def codeM (o : Option (Bs × List Int)) : Int := match o with | some _ => 0 | none => 5
def nameM (o : Option (Bs × List Int)) : ByteArray := match o with | some (n, _) => str n | none => ⟨#[]⟩
def listM (o : Option (Bs × List Int)) : List Int := match o with | some (_, ds) => ds | none => []
theorem ResM.all {o : Option (Bs × List Int)} {w : World} {r : Ending} {w' : World} (h : ResM o w r w') : ∃ av cv, r = .returned (.agg #[.int .i64 (codeM o), .string (nameM o), .slice av (listM o).length cv]) ∧ w'.ownsRow w.heap.size 2 1 (.slice av (listM o).length cv) (listM o).length ((listM o).map (Value.int .i64)) ∧ Below w.heap.size w w' := by
  obtain ⟨h1, h2⟩ := h
  match o, h1 with
  | some (n, ds), ⟨av, cv, h1, h3⟩ => exact ⟨av, cv, h1, h3, h2⟩
  | none, h1 => exact ⟨none, 0, h1, World.ownsRow_nil _ _ _ _, h2⟩
theorem listM_len {t : Bs} (h : t.length ≤ 1048576) : (listM (parseM t)).length ≤ 3 := by
  cases hp : parseM t with
  | none => simp [listM]
  | some x => obtain ⟨n, ds⟩ := x; exact (parseM_iff.1 hp).1.many
end Go.Proofs.YtokcibegjhfofalDoor
