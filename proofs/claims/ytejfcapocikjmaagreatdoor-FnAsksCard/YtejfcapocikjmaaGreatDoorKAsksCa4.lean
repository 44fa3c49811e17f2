/-
  Texts put together: Lay Rise CpyR Copy FetC.
-/
import Derived.Shelf.SlIterI.Nil
import Derived.Shelf.SortM.Plain
import Derived.Shelf.SortM.SortNone
import Derived.Ground.GgzProg
import Derived.Ground.SlgmProg
import Derived.Test.YtejfcapocikjmaaGreatDoorProg
import Derived.Test.YtejfcapocikjmaaGreatDoorKAsksCa2
import Derived.Test.YtejfcapocikjmaaGreatDoorKAsksCa3
import Derived.Test.YtejfcapocikjmaaGreatDoorKAsksCa1
import Derived.Laws.CopyRow
import Derived.ProofKit
import Derived.Deep.DrawnRows
import Derived.Deep.RegionHeld3
import Derived.Deep.AppendLies
import Derived.Deep.RegionLaw
import Derived.Deep.CutRange
namespace Go.Proofs.YtejfcapocikjmaaGreatDoor
open Go.RowKit Go.Maps Go.Sort Go.Shelf
set_option linter.unusedVariables false
def Tryz.keysA_ren : Go.Shelf.Ren := ⟨fun | 7 => 72 | 10 => 96 | n => n, fun | 23 => 68 | 26 => 2 | 3 => 65 | 28 => 115 | 0 => 0 | 27 => 114 | 33 => 71 | 4 => 4 | n => n, fun | n => n⟩
theorem Tryz.keysA : Go.Proofs.SlLaysZI.n7 Tryz.prog Tryz.keysA_ren := {
  mixed := by kernel_rfl
  f7 := ⟨Tryz.f72.name, by decide, Tryz.func72.trans (congrArg some (by kernel_rfl))⟩
  f10 := ⟨Tryz.f96.name, by decide, Tryz.func96.trans (congrArg some (by kernel_rfl))⟩
  t0 := Tryz.underlying0
  a0 := Tryz.isAgg0
  z0 := Tryz.sizeOf0
  v0 := Tryz.zeroValue0
  t4 := Tryz.underlying4
  a4 := Tryz.isAgg4
  z4 := Tryz.sizeOf4
  v4 := Tryz.zeroValue4
  t23 := Tryz.underlying68
  a23 := Tryz.isAgg68
  z23 := Tryz.sizeOf68
  v23 := Tryz.zeroValue68
  t26 := Tryz.underlying2
  a26 := Tryz.isAgg2
  z26 := Tryz.sizeOf2
  v26 := Tryz.zeroValue2
  t27 := Tryz.underlying114
  a27 := Tryz.isAgg114
  z27 := Tryz.sizeOf114
  v27 := Tryz.zeroValue114
  t28 := Tryz.underlying115
  a28 := Tryz.isAgg115
  z28 := Tryz.sizeOf115
  v28 := Tryz.zeroValue115
  t33 := Tryz.underlying71
  a33 := Tryz.isAgg71
  z33 := Tryz.sizeOf71
  v33 := Tryz.zeroValue71 }
def Tryz.sortedA_ren : Go.Shelf.Ren := ⟨fun | 6 => 71 | 8 => 94 | 9 => 95 | 11 => 112 | 13 => 114 | 12 => 113 | 23 => 131 | 24 => 132 | 14 => 122 | 15 => 123 | 16 => 124 | 17 => 125 | 18 => 126 | 19 => 127 | 20 => 128 | 21 => 129 | 22 => 130 | 25 => 136 | 26 => 137 | 27 => 138 | 28 => 139 | 29 => 140 | 30 => 141 | 31 => 144 | n => n, fun | 26 => 2 | 28 => 115 | 24 => 25 | 0 => 0 | 3 => 3 | 37 => 162 | 48 => 126 | 50 => 204 | 4 => 4 | 40 => 195 | 39 => 194 | 45 => 200 | 5 => 5 | 9 => 9 | 51 => 207 | 55 => 211 | 57 => 213 | 58 => 214 | 33 => 71 | n => n, fun | n => n⟩
theorem Tryz.sortedA : Go.Proofs.SlLaysZI.n6 Tryz.prog Tryz.sortedA_ren := {
  mixed := by kernel_rfl
  f6 := ⟨Tryz.f71.name, by decide, Tryz.func71.trans (congrArg some (by kernel_rfl))⟩
  f8 := ⟨Tryz.f94.name, by decide, Tryz.func94.trans (congrArg some (by kernel_rfl))⟩
  f11 := ⟨Tryz.f112.name, by decide, Tryz.func112.trans (congrArg some (by kernel_rfl))⟩
  t0 := Tryz.underlying0
  a0 := Tryz.isAgg0
  z0 := Tryz.sizeOf0
  v0 := Tryz.zeroValue0
  t24 := Tryz.underlying25
  a24 := Tryz.isAgg25
  z24 := Tryz.sizeOf25
  v24 := Tryz.zeroValue25
  t26 := Tryz.underlying2
  a26 := Tryz.isAgg2
  z26 := Tryz.sizeOf2
  v26 := Tryz.zeroValue2
  t28 := Tryz.underlying115
  a28 := Tryz.isAgg115
  z28 := Tryz.sizeOf115
  v28 := Tryz.zeroValue115
  i26 := by kernel_rfl }
def Tryz.sortA_ren : Go.Shelf.Ren := ⟨fun | 5 => 95 | 8 => 114 | 7 => 113 | 19 => 131 | 20 => 132 | 10 => 122 | 11 => 123 | 12 => 124 | 13 => 125 | 14 => 126 | 15 => 127 | 16 => 128 | 17 => 129 | 18 => 130 | 30 => 136 | 31 => 137 | 32 => 138 | 33 => 139 | 34 => 140 | 35 => 141 | 40 => 144 | n => n, fun | 23 => 25 | 25 => 2 | 3 => 3 | 32 => 162 | 22 => 25 | 0 => 0 | 44 => 126 | 46 => 204 | 4 => 4 | 36 => 195 | 35 => 194 | 41 => 200 | 5 => 5 | 9 => 9 | 53 => 207 | 57 => 211 | 63 => 213 | 64 => 214 | n => n, fun | n => n⟩
theorem Tryz.sortA : Go.Proofs.SlLaysM.n5 Tryz.prog Tryz.sortA_ren := {
  mixed := by kernel_rfl
  f5 := ⟨Tryz.f95.name, by decide, Tryz.func95.trans (congrArg some (by kernel_rfl))⟩
  f7 := ⟨Tryz.f113.name, by decide, Tryz.func113.trans (congrArg some (by kernel_rfl))⟩
  f8 := Tryz.func114.trans (congrArg some (by kernel_rfl))
  f10 := ⟨Tryz.f122.name, by decide, Tryz.func122.trans (congrArg some (by kernel_rfl))⟩
  f11 := ⟨Tryz.f123.name, by decide, Tryz.func123.trans (congrArg some (by kernel_rfl))⟩
  f12 := ⟨Tryz.f124.name, by decide, Tryz.func124.trans (congrArg some (by kernel_rfl))⟩
  f13 := ⟨Tryz.f125.name, by decide, Tryz.func125.trans (congrArg some (by kernel_rfl))⟩
  f14 := ⟨Tryz.f126.name, by decide, Tryz.func126.trans (congrArg some (by kernel_rfl))⟩
  f15 := ⟨Tryz.f127.name, by decide, Tryz.func127.trans (congrArg some (by kernel_rfl))⟩
  f16 := ⟨Tryz.f128.name, by decide, Tryz.func128.trans (congrArg some (by kernel_rfl))⟩
  f17 := ⟨Tryz.f129.name, by decide, Tryz.func129.trans (congrArg some (by kernel_rfl))⟩
  f18 := ⟨Tryz.f130.name, by decide, Tryz.func130.trans (congrArg some (by kernel_rfl))⟩
  f19 := Tryz.func131.trans (congrArg some (by kernel_rfl))
  f20 := Tryz.func132.trans (congrArg some (by kernel_rfl))
  f30 := ⟨Tryz.f136.name, by decide, Tryz.func136.trans (congrArg some (by kernel_rfl))⟩
  f31 := Tryz.func137.trans (congrArg some (by kernel_rfl))
  f32 := Tryz.func138.trans (congrArg some (by kernel_rfl))
  f33 := ⟨Tryz.f139.name, by decide, Tryz.func139.trans (congrArg some (by kernel_rfl))⟩
  f34 := ⟨Tryz.f140.name, by decide, Tryz.func140.trans (congrArg some (by kernel_rfl))⟩
  f35 := ⟨Tryz.f141.name, by decide, Tryz.func141.trans (congrArg some (by kernel_rfl))⟩
  f40 := ⟨Tryz.f144.name, by decide, Tryz.func144.trans (congrArg some (by kernel_rfl))⟩
  t0 := Tryz.underlying0
  a0 := Tryz.isAgg0
  z0 := Tryz.sizeOf0
  v0 := Tryz.zeroValue0
  t3 := Tryz.underlying3
  a3 := Tryz.isAgg3
  z3 := Tryz.sizeOf3
  v3 := Tryz.zeroValue3
  t4 := Tryz.underlying4
  a4 := Tryz.isAgg4
  z4 := Tryz.sizeOf4
  v4 := Tryz.zeroValue4
  t5 := Tryz.underlying5
  a5 := Tryz.isAgg5
  z5 := Tryz.sizeOf5
  v5 := Tryz.zeroValue5
  t9 := Tryz.underlying9
  a9 := Tryz.isAgg9
  z9 := Tryz.sizeOf9
  v9 := Tryz.zeroValue9
  t22 := Tryz.underlying25
  a22 := Tryz.isAgg25
  z22 := Tryz.sizeOf25
  v22 := Tryz.zeroValue25
  t23 := Tryz.underlying25
  a23 := Tryz.isAgg25
  z23 := Tryz.sizeOf25
  v23 := Tryz.zeroValue25
  t25 := Tryz.underlying2
  a25 := Tryz.isAgg2
  z25 := Tryz.sizeOf2
  v25 := Tryz.zeroValue2
  t32 := Tryz.underlying162
  a32 := Tryz.isAgg162
  z32 := Tryz.sizeOf162
  v32 := Tryz.zeroValue162
  t35 := Tryz.underlying194
  a35 := Tryz.isAgg194
  z35 := Tryz.sizeOf194
  v35 := Tryz.zeroValue194
  t36 := Tryz.underlying195
  a36 := Tryz.isAgg195
  z36 := Tryz.sizeOf195
  v36 := Tryz.zeroValue195
  t41 := Tryz.underlying200
  a41 := Tryz.isAgg200
  z41 := Tryz.sizeOf200
  v41 := Tryz.zeroValue200
  t44 := Tryz.underlying126
  a44 := Tryz.isAgg126
  z44 := Tryz.sizeOf126
  v44 := Tryz.zeroValue126
  t46 := Tryz.underlying204
  a46 := Tryz.isAgg204
  z46 := Tryz.sizeOf204
  v46 := Tryz.zeroValue204
  t53 := Tryz.underlying207
  a53 := Tryz.isAgg207
  z53 := Tryz.sizeOf207
  v53 := Tryz.zeroValue207
  t57 := Tryz.underlying211
  a57 := Tryz.isAgg211
  z57 := Tryz.sizeOf211
  v57 := Tryz.zeroValue211
  t63 := Tryz.underlying213
  a63 := Tryz.isAgg213
  z63 := Tryz.sizeOf213
  v63 := Tryz.zeroValue213
  t64 := Tryz.underlying214
  a64 := Tryz.isAgg214
  z64 := Tryz.sizeOf214
  v64 := Tryz.zeroValue214 }
end Go.Proofs.YtejfcapocikjmaaGreatDoor

namespace Go.Proofs.YtejfcapocikjmaaGreatDoor
open Go.RowKit Go.Maps
set_option linter.unusedVariables false

theorem sortsA (m : Nat) : AnyZI.SortsIn Tryz.prog Tryz.sortedA_ren Fence.wide m :=
  ⟨fun blk off cap ss W hH hblk hsz => callsIn_wide.2 (AnyM.slices_Sort_int Tryz.sortA blk off cap ss W hH hblk hsz),
   fun p cap W => callsIn_wide.2 (AnyM.slices_Sort_int_none Tryz.sortA p cap W)⟩

theorem keysCall (mb : Option Nat) (W : World) : Calls Tryz.prog 72 #[.map mb] W fun e w' => e = .returned (.func (.func 96) #[] #[.pointer (some ⟨W.heap.size, 0, none⟩)]) ∧ w' = W.alloc (.cells #[.map mb] 68) :=
  (callsIn_wide (n := 5)).1 (AnyZI.keys_in Tryz.keysA Fence.wide 5 trivial rfl mb W)

set_option maxHeartbeats 1000000 in
theorem sortedCall {H : Type} (b nn : Nat) (D0 : DataW H) (R : Value → Option (DataW H × List MemPlace)) (w : World) (hown : w.ownsMap Tryz.prog 2 R b nn D0) (hmax : Maps.size D0 ≤ maxLen) (hbytes : Maps.size D0 * 8 ≤ 140737488355328) :
    Calls Tryz.prog 71 #[.func (.func 96) #[] #[.pointer (some ⟨w.heap.size, 0, none⟩)]] (w.alloc (.cells #[.map (some b)] 68)) fun e w' => ∃ (v : Value) (ss : List Int), e = .returned v ∧ ss.Perm (intKeys D0) ∧
      w'.ownsRow (w.alloc (.cells #[.map (some b)] 68)).heap.size 2 1 v ss.length ((ss.mergeSort (fun x y => decide (x ≤ y))).map (Value.int .i64)) ∧ Below (w.alloc (.cells #[.map (some b)] 68)).heap.size (w.alloc (.cells #[.map (some b)] 68)) w' := by
  refine (callsIn_wide (n := 5)).1 ?_
  have hbl := hown.lt
  have hseq : SeqGives Fence.wide 2 Tryz.prog 96 #[.pointer (some ⟨w.heap.size, 0, none⟩)] encZ (fun ss => ss.Perm (intKeys D0)) (Maps.size D0) (w.alloc (.cells #[.map (some b)] 68)) :=
    AnyZI.keys_gives (ρ := Tryz.keysA_ren) { Tryz.keysA with } Fence.wide _ trivial rfl (by omega) w.heap.size b nn D0 _ (by simp) (by simp) (by
      obtain ⟨es, clock, hb, Ft, hs, hD⟩ := hown
      exact ⟨es, clock, (Below.heap_alloc _ _ b hbl).trans hb, Ft, hs, hD⟩)
  have cS := AnyZI.sorted_in Tryz.sortedA Fence.wide 5 trivial trivial trivial trivial rfl (by omega) (sortsA _) (enters_of Tryz.func95 (by kernel_rfl) rfl) 96 #[.pointer (some ⟨w.heap.size, 0, none⟩)] trivial (enters_of Tryz.func96 (by kernel_rfl) rfl) _ _ hmax hbytes _ hseq
  refine cS.mono ?_
  rintro e w' ⟨v, ss, he, hp, ho, _, hb⟩
  exact ⟨v, ss, he, hp, ho, hb⟩

theorem GC.shape {B T : Nat} {w : World} {v : Value} {D : Nat → Int} {P : Nat → List Int} {j : Nat} (h : GC B T w v D P j) : ∃ a c, v = .slice a j c := by
  obtain ⟨A, C, h1, _⟩ := h
  exact ownsRow_shape h1
theorem below_next' {B : Nat} {w w' w'' : World} (h : Below B w w') (k : Below w'.heap.size w' w'') (hB : B ≤ w'.heap.size := by omega) : Below B w w'' := h.trans (k.mono hB)

theorem GC.push {B : Nat} {w w1 w2 : World} {v v' : Value} {D : Nat → Int} {P : Nat → List Int} {j g c : Nat} {A : Nat → Option Addr} {C : Nat → Nat} {d : Int} {zs : List Int}
    (h1 : w.ownsRow B 65 2 v j (flat j (chCells D P A C)))
    (h2 : ∀ i, i < j → w.ownsRow B 5 1 (.slice (A i) (P i).length (C i)) (P i).length ((P i).map (Value.int .u8)))
    (h3 : ∀ i i' g, i < j → i' < j → (A i).map Addr.block = some g → (A i').map Addr.block = some g → i = i') (hB : B ≤ w.heap.size) (hbel : Below w.heap.size w w1)
    (hown : w1.ownsRow w.heap.size 5 1 (.slice (some ⟨g, 0, none⟩) zs.length c) zs.length (zs.map (Value.int .u8)))
    (hv' : w2.ownsRow B 65 2 v' (j + 1) (flat j (chCells D P A C) ++ [.int .i64 d, .slice (some ⟨g, 0, none⟩) zs.length c]))
    (hk : Kept (fun b => v.ownBlock = some b) w1 w2) : GC B w2.heap.size w2 v' (upd D j d) (upd P j zs) (j + 1) := by
  have hob : ∀ i, ∀ g', (A i).map Addr.block = some g' → (Value.slice (A i) (P i).length (C i)).ownBlock = some g' := fun i g' hg => by
    cases hA : A i with
    | none => rw [hA] at hg; simp at hg
    | some x => rw [hA] at hg; simpa [Value.ownBlock] using hg
  have hA : ∀ i g', i < j → (A i).map Addr.block = some g' → g' < w.heap.size := fun i g' hi hg => ((h2 i hi).lt g' (hob i g' hg)).2
  have hg0 : w.heap.size ≤ g ∧ g < w1.heap.size := hown.lt g rfl
  have k1 := ownsRow_below h1 hbel
  refine ⟨upd A j (some ⟨g, 0, none⟩), upd C j c, ?_, ?_, ?_, ?_, fun b hb => (hv'.lt b hb).2⟩
  · rw [flat_succ]
    have e : flat j (chCells (upd D j d) (upd P j zs) (upd A j (some ⟨g, 0, none⟩)) (upd C j c)) = flat j (chCells D P A C) := flat_congr (fun i hi => by
      have : i ≠ j := by omega
      simp [chCells, upd_other _ _ _ this])
    rw [e]
    simpa [chCells, upd_same] using hv'
  · intro i hi
    by_cases e : i = j
    · subst e
      simp only [upd_same]
      exact ownsRow_kept (ownsRow_mono hown hB) hk (fun b hb hS => ownsRow_apart k1 hown (by decide) hS hb)
    · simp only [upd_other _ _ _ e]
      have k2 := ownsRow_below (h2 i (by omega)) hbel
      exact ownsRow_kept k2 hk (fun b hb hS => ownsRow_apart k1 k2 (by decide) hS hb)
  · intro i i' g' hi hi' e1 e2
    by_cases e : i = j
    · by_cases e' : i' = j
      · omega
      · rw [e, upd_same] at e1
        rw [upd_other _ _ _ e'] at e2
        simp only [Option.map_some, Option.some.injEq] at e1
        have := hA i' g' (by omega) e2
        omega
    · by_cases e' : i' = j
      · rw [upd_other _ _ _ e] at e1
        rw [e', upd_same] at e2
        simp only [Option.map_some, Option.some.injEq] at e2
        have := hA i g' (by omega) e1
        omega
      · rw [upd_other _ _ _ e] at e1
        rw [upd_other _ _ _ e'] at e2
        exact h3 i i' g' (by omega) (by omega) e1 e2
  · intro i g' hi e1
    have hsz := hk.size
    by_cases e : i = j
    · rw [e, upd_same] at e1
      simp only [Option.map_some, Option.some.injEq] at e1
      omega
    · rw [upd_other _ _ _ e] at e1
      have h5 := hA i g' (by omega) e1
      have := hbel.size
      omega

def valOf (L : List Ch) (k : Int) : List Int := ((L.find? fun p => p.1 == k).map Prod.snd).getD []
theorem valOf_mem : ∀ {L : List Ch}, (L.map Prod.fst).Nodup → ∀ {p : Ch}, p ∈ L → valOf L p.1 = p.2
  | [], _, p, hp => by simp at hp
  | q :: L, hn, p, hp => by
    rw [List.map_cons, List.nodup_cons] at hn
    by_cases e : q.1 = p.1
    · rcases List.mem_cons.1 hp with rfl | hp'
      · simp [valOf]
      · exact absurd (by rw [e]; exact List.mem_map_of_mem hp') hn.1
    · rcases List.mem_cons.1 hp with rfl | hp'
      · exact absurd rfl e
      · have := valOf_mem hn.2 hp'
        unfold valOf at this ⊢
        rw [List.find?_cons_of_neg (by simpa using e)]
        exact this
def chOf (L : List Ch) (ks : List Int) : List Ch := ks.map fun k => (k, valOf L k)
theorem chOf_keys {L : List Ch} (hn : (L.map Prod.fst).Nodup) : chOf L (L.map Prod.fst) = L := by
  unfold chOf
  rw [List.map_map]
  have : ∀ p ∈ L, ((fun k => (k, valOf L k)) ∘ Prod.fst) p = id p := fun p hp => by
    simp only [Function.comp, id, valOf_mem hn hp]
  rw [List.map_congr_left this, List.map_id]
def keysUp (L : List Ch) : List Int := (L.map Prod.fst).mergeSort fun x y => decide (x ≤ y)
def up (L : List Ch) : List Ch := chOf L (keysUp L)
theorem keysUp_perm (L : List Ch) : (keysUp L).Perm (L.map Prod.fst) := List.mergeSort_perm _ _
theorem up_perm {L : List Ch} (hn : (L.map Prod.fst).Nodup) : (up L).Perm L := by
  have h := (keysUp_perm L).map fun k => (k, valOf L k)
  have e : (L.map Prod.fst).map (fun k => (k, valOf L k)) = L := chOf_keys hn
  rw [e] at h
  exact h
theorem keysUp_up {L : List Ch} (hn : (L.map Prod.fst).Nodup) : (keysUp L).Pairwise (· < ·) := by
  have h1 : (keysUp L).Pairwise (fun x y => decide (x ≤ y) = true) := List.pairwise_mergeSort (fun a b c h1 h2 => by simp only [decide_eq_true_eq] at *; omega) (fun a b => by simp only [Bool.or_eq_true, decide_eq_true_eq]; omega) _
  have h2 : (keysUp L).Nodup := (keysUp_perm L).nodup_iff.2 hn
  have h3 : (keysUp L).Pairwise (fun x y => decide (x ≤ y) = true ∧ x ≠ y) := List.Pairwise.and h1 h2
  exact h3.imp (fun {a b} ⟨h4, h5⟩ => by simp only [decide_eq_true_eq] at h4; omega)
theorem up_up {L : List Ch} (hn : (L.map Prod.fst).Nodup) : (up L).Pairwise (fun p q => p.1 < q.1) := by
  unfold up chOf
  exact List.pairwise_map.2 (keysUp_up hn)
theorem up_unique {M M' : List Ch} (h : M.Perm M') (h1 : M.Pairwise (fun p q => p.1 < q.1)) (h2 : M'.Pairwise (fun p q => p.1 < q.1)) : M = M' :=
  List.Perm.eq_of_pairwise (le := fun p q => p.1 < q.1) (fun a b _ _ h3 h4 => by omega) h1 h2 h

theorem Holds.keys {w : World} {b N : Nat} {L : List Ch} {T : Nat} (h : Holds w b N L T) : ∃ Dt : DataW Value, w.ownsMap Tryz.prog 2 RV b N Dt ∧ size Dt = L.length ∧ (∀ ss : List Int, ss.Perm (intKeys Dt) → (ss.mergeSort fun x y => decide (x ≤ y)) = keysUp L ∧ ss.length = L.length) ∧ ∀ x ∈ keysUp L, (Lit.int .i64 x).wf = true := by
  obtain ⟨Dt, A, C, h1, h2, h3, h4, h5⟩ := h
  have hp : (L.map Prod.fst).Perm (intKeys Dt) := CollectedI.perm (left := fun _ => false) ⟨h5, fun x => by rw [h2 x]; simp⟩ h1 law64 Tryz.underlying2 (fun _ => rfl)
  refine ⟨Dt, h1, h4, fun ss hs => ⟨mergeSort_of_perm_i (hs.trans hp.symm), by rw [(hs.trans hp.symm).length_eq, List.length_map]⟩, fun x hx => ?_⟩
  exact intKeys_wf h1 Tryz.underlying2 x (hp.subset ((keysUp_perm L).subset hx))
theorem Holds.nodup {w : World} {b N : Nat} {L : List Ch} {T : Nat} (h : Holds w b N L T) : (L.map Prod.fst).Nodup := by
  obtain ⟨Dt, A, C, h1, h2, h3, h4, h5⟩ := h
  exact h5

def dg (L : List Ch) (i : Nat) : Int := (L.getD i (0, [])).1
def bt (L : List Ch) (i : Nat) : List Int := (L.getD i (0, [])).2
theorem keysUp_length (L : List Ch) : (keysUp L).length = L.length := by rw [(keysUp_perm L).length_eq, List.length_map]
theorem up_dg {L : List Ch} {i : Nat} (hi : i < L.length) : dg (up L) i = (keysUp L).getD i 0 := by
  have h := keysUp_length L
  have hi2 : i < (keysUp L).length := by omega
  simp [dg, up, chOf, List.getD_eq_getElem?_getD, hi2]
theorem up_bt {L : List Ch} {i : Nat} (hi : i < L.length) : bt (up L) i = valOf L ((keysUp L).getD i 0) := by
  have h := keysUp_length L
  have hi2 : i < (keysUp L).length := by omega
  simp [bt, up, chOf, List.getD_eq_getElem?_getD, hi2]

set_option maxRecDepth 100000 in
set_option maxHeartbeats 3200000 in
theorem risingC_any (b N : Nat) (L : List Ch) (T : Nat) (w : World) (h : Holds w b N L T) (hL : L.length ≤ 1048576) (hlen : ∀ p ∈ L, 0 < p.2.length ∧ p.2.length ≤ 1048576) (hT : T ≤ w.heap.size) :
    Calls Tryz.prog 42 #[.map (some b)] w fun e w' => ∃ a c, e = .returned (.slice a L.length c) ∧ GC w.heap.size w'.heap.size w' (.slice a L.length c) (dg (up L)) (bt (up L)) L.length ∧ Below w.heap.size w w' := by
  obtain ⟨i1, ki, kz0, kz1, kz2⟩ := info_parts Tryz.infoCh
  obtain ⟨Dt, hown, hsize, hkeys, hwf⟩ := h.keys
  have hnd := h.nodup
  have hbl := h.lt
  have HH := hide h
  have HO := hide hown
  have HK := hide hkeys
  have HWf := hide hwf
  have HLen := hide hlen
  have HND := hide hnd
  have hby : i1.bytes * L.length ≤ 281474976710656 := by rw [kz2]; omega
  have hml : L.length ≤ maxLen := by unfold maxLen; omega
  have HSz := hide hsize
  clear h hown hkeys hwf hlen hnd hsize
  go_enter Tryz.func42, Tryz.ntmps42
  go_wp2_with (first | (at_len; refine wpList_len_own _ rfl _ 68 rfl 2 65 Tryz.underlying68 RV b N Dt rfl HO.out ?_; rw [HSz.out]) | (at_make; refine wpList_make_own _ rfl _ _ 26 rfl w.heap.size 65 i1 (.agg #[.int .i64 0, .slice none 0 0]) 2 Tryz.underlying26 ki kz0 kz1 .i64 .i64 _ L.length rfl rfl rfl hby hml (Nat.le_refl _) ?_; intro w1 ho1 hg1; have HO1 := hide ho1; have HG1 := hide hg1; clear ho1 hg1) | fail)
  refine (keysCall _ _).mono ?_
  rintro e w2 ⟨rfl, rfl⟩
  have B1 := hide ((Below.refl w.heap.size w).grown HG1.out (Nat.le_refl _) (fun k hk => by simp at hk))
  have O1 := hide (HO.out.kept HG1.out (by simp))
  have H1 := hide (HH.out.below B1.out)
  clear HG1
  have hs1 : w.heap.size < w1.heap.size := (HO1.out.lt w.heap.size rfl).2
  go_wp2_with fail
  refine (sortedCall b N Dt RV w1 O1.out (by rw [HSz.out]; exact hml) (by rw [HSz.out]; omega)).mono ?_
  rintro e w3 ⟨v, ss, rfl, hp, hown3, b3⟩
  obtain ⟨hks, hsl⟩ := HK.out ss hp
  obtain ⟨av, cv, rfl⟩ := ownsRow_shape hown3
  rw [hks] at hown3
  have R3 := hide (ownsRow_own hown3 (by rw [hsl, keysUp_length])).reads
  have KR : Hid (w3.ownsRow w.heap.size 2 1 (.slice av L.length cv) L.length ((keysUp L).map (Value.int .i64))) := by rw [hsl] at hown3; exact ownsRow_mono hown3 (by simp; omega)
  have B31 := hide (below_next (below_alloc w1 (.cells #[.map (some b)] 68)) b3)
  have G3 := hide (ownsRow_below HO1.out B31.out)
  have H3 := hide (H1.out.below B31.out)
  have B3 := hide (below_next B1.out B31.out)
  rw [hsl]
  clear hown3 b3 hp hks HO1 H1 B1 B31 O1
  have hs3 : w.heap.size < w3.heap.size := (G3.out.lt w.heap.size rfl).2
  have K3 : Hid (w3.ownsRow w.heap.size 2 1 (.slice av L.length cv) L.length ((keysUp L).map (Value.int .i64))) := KR.out
  go_wp2
  go_loopw [3, 5, 13] (fun v _ i wr => ∃ j : Nat, j ≤ L.length ∧ i = .int .i64 j ∧ GC w.heap.size wr.heap.size wr v (dg (up L)) (bt (up L)) j ∧ wr.ownsRow w.heap.size 2 1 (.slice av L.length cv) L.length ((keysUp L).map (Value.int .i64)) ∧ Holds wr b N L T ∧ Below w.heap.size w wr) (fun _ _ i _ => L.length - (intOf i).toNat)
  case atStart => exact ⟨0, Nat.zero_le _, rfl, ⟨fun _ => none, fun _ => 0, G3.out, fun i hi => absurd hi (by omega), fun i i' g hi => absurd hi (by omega), fun i g hi => absurd hi (by omega), fun x hx => (G3.out.lt x hx).2⟩, K3.out, H3.out, B3.out⟩
  case round =>
    obtain ⟨j, hj, rfl, hG, hKR, hH, hbel⟩ := hrel
    obtain ⟨lv, lc, rfl⟩ := hG.shape
    have HW := hide hbel
    have hsz := hbel.size
    clear R3 K3 G3 H3 B3
    by_cases hlt : j < L.length
    · obtain ⟨b2, o2, rfl, hb2, hc2⟩ := (ownsRow_own hKR (keysUp_length L).symm).reads (by intro e; have := keysUp_length L; rw [e] at this; simp at this; omega)
      have hc1 := hc2 j (by rw [keysUp_length]; exact hlt)
      have hmem : (keysUp L).getD j 0 ∈ keysUp L := by
        have : j < (keysUp L).length := by rw [keysUp_length]; exact hlt
        rw [List.getD_eq_getElem?_getD, List.getElem?_eq_getElem this]
        exact List.getElem_mem this
      have hwz := HWf.out _ hmem
      have hd := up_dg hlt
      have hb := up_bt hlt
      obtain ⟨p, hp, hpk⟩ := List.mem_map.1 ((keysUp_perm L).subset hmem)
      have hpv := valOf_mem HND.out hp
      have hpl := HLen.out p hp
      have hpair : ((keysUp L).getD j 0, valOf L ((keysUp L).getD j 0)) ∈ L := by rw [← hpk, hpv]; exact hp
      rw [← hpv, hpk] at hpl
      generalize (keysUp L).getD j 0 = z at *
      generalize hxs : valOf L z = xs at *
      clear hxs hpv
      obtain ⟨a3, c3, hrun, hr3, -⟩ := hH.yes hpair hwz 68 Tryz.underlying68
      have HL := hide (hrun false)
      obtain ⟨b3, o3, rfl, hb3, hc3⟩ := hr3 (by intro e; rw [e] at hpl; simp at hpl)
      obtain ⟨A, C, h1, h2, h3, h4, h5⟩ := hG
      have HDB := hide (And.intro hd hb)
      have HC3 := hide hc3
      have HA1 := hide h1
      have HA2 := hide h2
      have HA3 := hide h3
      have HKR := hide hKR
      have HHw := hide hH
      have hm1 : j + 1 ≤ maxLen := by unfold maxLen; omega
      have hm2 : (j + 1) * 32 ≤ 140737488355328 := by omega
      have hfd : ∀ u : World, (Instr.field 65 (.agg #[.int .i64 z, .slice (some ⟨b3, o3, none⟩) xs.length c3]) 1).run Tryz.prog u = .ok (.slice (some ⟨b3, o3, none⟩) xs.length c3) u := fun _ => by kernel_rfl
      clear hc2 hmem hpk hp hpair hrun hr3 hc3 h1 h2 h3 h4 h5 hKR hH hbel hd hb
      go_wp2_with (first | (at_lookup; refine wpList_look rfl _ _ 68 false rfl _ _ _ rfl rfl HL.out ?_; simp only [chv, Bool.false_eq_true, if_false]) | (go_at_call 29; refine (clone_any b3 o3 c3 xs wr HC3.out hb3 hpl.1 hpl.2 _ rfl).mono ?_; rintro e w4 ⟨g, cc, rfl, hown4, hg4, hgl4, hbel4⟩; have k1 := hide (ownsRow_below HA1.out hbel4); have O4 := hide hown4; have B4 := hide hbel4; have hsz4 : w.heap.size ≤ w4.heap.size := Nat.le_trans hsz hbel4.size; clear hown4 hbel4) | (at_builtin; refine wpList_append_one rfl (.tmp 17) (.tmp 25) 26 rfl w.heap.size 65 i1 (.agg #[.int .i64 0, .slice none 0 0]) 2 32 Tryz.underlying26 ki kz0 kz1 kz2 rfl (by decide) _ _ _ rfl k1.out rfl rfl (by intro u hu; simp at hu; rcases hu with rfl | rfl <;> rfl) hm1 hm2 hsz4 ?_; intro v' w5 hown5 hkept; have O5 := hide hown5; have K5 := hide hkept; clear hown5 hkept) | fail)
      go_roundw
      case rel =>
        have hS : ∀ x, (Value.slice lv j lc).ownBlock = some x → w.heap.size ≤ x := fun x hx => (k1.out.lt x hx).1
        refine ⟨j + 1, by omega, by go_num, ?_, ?_, ?_, ?_⟩
        · refine (GC.push HA1.out HA2.out HA3.out hsz B4.out O4.out O5.out K5.out).congr (fun i hi => ?_) (fun i hi => ?_)
          · by_cases e : i = j
            · subst e; rw [upd_same]; exact HDB.out.1
            · rw [upd_other _ _ _ e]
          · by_cases e : i = j
            · subst e; rw [upd_same]; exact HDB.out.2
            · rw [upd_other _ _ _ e]
        · have k2 := ownsRow_below HKR.out B4.out
          exact ownsRow_kept k2 K5.out (fun x hx hS' => ownsRow_apart k1.out k2 (by decide) hS' hx)
        · exact (HHw.out.below B4.out).kept K5.out (fun hx => by have := hS _ hx; omega) (fun x hx => by have := hS x hx; omega)
        · exact (below_next' HW.out B4.out).trans (K5.out.below hsz4 (fun k hk hx => by have := hS k hx; omega))
      case measure => simp [intOf]; omega
    · have hje : j = L.length := by omega
      subst hje
      have HG := hide hG
      clear hG hKR hH hbel
      go_wp2
      go_ret
      exact ⟨_, _, rfl, HG.out, HW.out⟩

end Go.Proofs.YtejfcapocikjmaaGreatDoor

namespace Go.Proofs.YtejfcapocikjmaaGreatDoor
open Go.RowKit Go.Maps
set_option linter.unusedVariables false
attribute [local go_sem ↓] Go.wp_at_zero Go.wp_at_succ

theorem kept_none {w w' : World} (h : w.grownBy w' none) : Below w.heap.size w w' := ⟨h.os, h.tape, h.output, h.size, fun k hk => h.block k hk (by simp)⟩
theorem wpList_copy_onto {P : Program} {w : World} {ops : Array Oper} {rest : List Oper} {o : Oper} {a : Act} {Q : Exit → Act → World → Prop} (hgd : o.guard = none) (d s : Operand) (t : TypeId)
    (ho : o.op = .call { callee := .builtin .copy, args := #[d, s], argTypes := #[t, t] })
    (base : Nat) (e : TypeId) (i : TypeInfo) (size : Nat) (ht : P.underlying t = some (.slice e)) (hi : P.info? e = some i) (hsize : i.size = size) (hpos : 0 < size)
    (g n c : Nat) (xs : List Value) (hd : a.eval d = .slice (some ⟨g, 0, none⟩) n c) (hown : w.ownsRow base e size (.slice (some ⟨g, 0, none⟩) n c) n xs)
    (sp : Option Addr) (m sc : Nat) (cs : List Value) (hs : a.eval s = .slice sp m sc) (hm : m ≤ n) (hcl : cs.length = m * size)
    (hsrc : cs ≠ [] → ∃ ad, sp = some ad ∧ ∀ j u, cs[j]? = some u → w.cell? (ad.add j) = some u) (h1 : ∀ u ∈ cs, u.oneCell' = true)
    (h : ∀ w', w'.ownsRow base e size (.slice (some ⟨g, 0, none⟩) n c) n (cs ++ xs.drop (m * size)) → Kept (fun b => b = g) w w' → wpList P ops Q rest (a.put o.dst (goInt m)) w') :
    wpList P ops Q (o :: rest) a w := by
  have hmin : Nat.min m n = m := Nat.min_eq_left hm
  refine wpList_plain hgd fun K hK => ?_
  by_cases hz : cs = []
  · subst hz
    have hm0 : m = 0 := by
      simp only [List.length_nil] at hcl
      rcases Nat.mul_eq_zero.1 hcl.symm with h0 | h0
      · exact h0
      · omega
    subst hm0
    have hl : ∀ (x : Addr), (loadCells x 0).run P w = .ok #[] w := fun x => by simpa using run_loadCells_list (P := P) w x [] (by simp)
    have hrun : (Builtin.copy_ #[t, t] o.type #[.slice (some ⟨g, 0, none⟩) n c, .slice sp 0 sc]).run P w = .ok (goInt 0) w := by
      cases sp <;> simp [Builtin.copy_, run_underlying ht, Builtin.lenOf, Builtin.firstCells, sizeOf, typeInfo, hi, storeCells, hl]
    unfold Oper.wp
    simp [execOp, ho, resolve, invoke, builtin, hd, hs, hrun, Result.andThen]
    exact hK _ _ (h w (by simpa using hown) (Kept.refl _ _))
  · obtain ⟨ad, rfl, hsr2⟩ := hsrc hz
    rcases hown.2 with ⟨hv, _⟩ | ⟨g', cap, cur, hv, hb, hh, hnc, hcm, hcs, htk⟩
    · cases hv
    · cases hv
      have hfit : cs.length ≤ cur.size := by
        rw [hcl, hcs]
        exact Nat.mul_le_mul_right _ (Nat.le_trans hm hnc)
      have hl := run_loadCells_list (P := P) w ad cs hsr2
      have hst := run_storeCells_at P g 0 e cs 0 cur w hh (by simpa using hfit) h1
      have hrun : (Builtin.copy_ #[t, t] o.type #[.slice (some ⟨g, 0, none⟩) n c, .slice (some ad) m sc]).run P w = .ok (goInt m) (w.setRow g (cs ++ cur.toList.drop cs.length).toArray) := by
        rw [hcl] at hl
        simp [Builtin.copy_, run_underlying ht, Builtin.lenOf, Builtin.firstCells, sizeOf, typeInfo, hi, hsize, hmin, hl, hst]
      unfold Oper.wp
      simp [execOp, ho, resolve, invoke, builtin, hd, hs, hrun, Result.andThen]
      refine hK _ _ (h _ ⟨?_, .inr ⟨g, c, (cs ++ cur.toList.drop cs.length).toArray, rfl, hb, setRow_heap w g cur _ e (0, 0) hh, hnc, hcm, ?_, ?_⟩⟩ ⟨rfl, rfl, rfl, by simp [World.setRow], fun k hk hn => setRow_other w g k _ hn⟩)
      · rw [List.length_append, List.length_drop, hown.1, hcl, ← Nat.sub_mul, ← Nat.add_mul]
        congr 1; omega
      · simp only [List.size_toArray, List.length_append, List.length_drop, Array.length_toList]
        omega
      · have hle : cs.length ≤ n * size := by rw [hcl]; exact Nat.mul_le_mul_right _ hm
        rw [List.take_append, List.take_of_length_le hle, ← htk, List.drop_take, hcl]
theorem reads_cells {k : IntKind} {w : World} {a : Option Addr} {zs : List Int} (h : Reads k w a zs) : ∀ W : World, Below w.heap.size w W → zs.map (Value.int k) ≠ [] → ∃ ad, a = some ad ∧ ∀ (j : Nat) u, (zs.map (Value.int k))[j]? = some u → W.cell? (ad.add j) = some u := fun W hW hz => by
  obtain ⟨b, off, e, hb, hc⟩ := (h.below hW) (by intro e; simp [e] at hz)
  exact ⟨⟨b, off, none⟩, e, reads_news hc⟩
theorem made_drop (z : Array Value) (n : Nat) : (madeCells z n).toList.drop n = [] := List.drop_eq_nil_of_le (by rw [Array.length_toList, size_madeCells]; exact Nat.le_refl _)
set_option maxRecDepth 100000 in
set_option maxHeartbeats 1600000 in
theorem copiedInts_any (a : Option Addr) (c n : Nat) (zs : List Int) (w : World) (h : Reads .i64 w a zs) (hn : n = zs.length) (hl : zs.length ≤ 1048576) :
    Calls Tryz.prog 40 #[.slice a n c] w fun r w' => ∃ av cv, r = .returned (.slice av zs.length cv) ∧ w'.ownsRow w.heap.size 2 1 (.slice av zs.length cv) zs.length (zs.map (Value.int .i64)) ∧ Below w.heap.size w w' := by
  subst hn
  obtain ⟨i0, hi0, hz0, hz1, hz2⟩ := info_parts Tryz.infoI64
  by_cases hz : zs = []
  · subst hz
    go_enter Tryz.func40, Tryz.ntmps40
    go_wp2_with fail
    go_ret
    exact ⟨none, 0, rfl, World.ownsRow_nil _ _ _ _, Below.refl _ _⟩
  · have hp : 0 < zs.length := List.length_pos_iff.2 hz
    have HC := hide (reads_cells h)
    have HV1 := hide (ints_one .i64 zs)
    have hby : i0.bytes * zs.length ≤ 281474976710656 := by rw [hz2]; omega
    have hml : zs.length ≤ maxLen := by unfold maxLen; omega
    have HVN := hide (show (zs.map (Value.int .i64)).length = zs.length * 1 by simp)
    have HD := hide (show (madeCells (Value.int .i64 0).cells (zs.length * 1)).toList.drop (zs.length * 1) = [] from made_drop _ _)
    clear h hz
    generalize hvs : zs.map (Value.int .i64) = vs at *
    clear hvs
    generalize zs.length = N at *
    have hne : ((N : Int) == 0) = false := by simp; omega
    go_enter Tryz.func40, Tryz.ntmps40
    go_wp2_with (first
      | (at_make; refine wpList_make_full _ rfl (.tmp 8) (.tmp 8) 25 rfl w.heap.size 2 i0 (.int .i64 0) 1 Tryz.underlying25 hi0 hz0 hz1 .i64 .i64 _ _ N rfl rfl (by simp) (by simp) hby hml (Nat.le_refl _) ?_; intro w1 ho1 hg1; have O1 := hide ho1; have B1 := hide (kept_none hg1); clear ho1 hg1)
      | (refine wpList_copy_onto rfl (.tmp 10) (.tmp 11) 25 rfl w.heap.size 2 i0 1 Tryz.underlying25 hi0 hz1 (by decide) w.heap.size N N _ rfl O1.out a N c vs rfl (Nat.le_refl _) HVN.out (HC.out w1 B1.out) HV1.out ?_; rw [HD.out, List.append_nil]; intro w2 ho2 hk2; have O2 := hide ho2; have B2 := hide (B1.out.trans (hk2.below (B := w.heap.size) B1.out.size (fun b hb e => by omega))); clear ho2 hk2))
    go_ret
    exact ⟨_, _, rfl, O2.out, B2.out⟩
end Go.Proofs.YtejfcapocikjmaaGreatDoor

namespace Go.Proofs.YtejfcapocikjmaaGreatDoor
open Go.RowKit Go.Maps
set_option linter.unusedVariables false
attribute [local go_sem ↓] Go.wp_at_zero Go.wp_at_succ

theorem step_append_own {P : Program} {w : World} {ops : Array Oper} {o : Oper} {a : Act} {K : Act → World → Prop} {Q : Exit → Act → World → Prop} {E : Prop} (hgd : o.guard = none) (s x : Operand) (t : TypeId)
    (ho : o.op = .call { callee := .builtin .append, args := #[s, x], argTypes := #[t, t] })
    (base : Nat) (e : TypeId) (i : TypeInfo) (z : Value) (size bytes : Nat) (ht : P.underlying t = some (.slice e)) (hi : P.info? e = some i) (hz : i.zero = some z)
    (hsize : i.size = size) (hby : i.bytes = bytes) (hzs : z.cells.size = size) (hsz : 0 < size)
    (v : Value) (n : Nat) (xs : List Value) (hs : a.eval s = v) (hown : w.ownsRow base e size v n xs)
    (ad : Addr) (m c : Nat) (news : List Value) (hx : a.eval x = .slice (some ad) m c) (hl : news.length = m * size) (hnews : ∀ j u, news[j]? = some u → w.cell? (ad.add j) = some u) (h1 : ∀ u ∈ news, u.oneCell' = true)
    (N : Nat) (hN : n + m = N) (h63 : n + m ≤ maxLen) (hbytes : (n + m) * bytes ≤ 140737488355328) (hbase : base ≤ w.heap.size)
    (h : ∀ av cv w', w'.ownsRow base e size (.slice av N cv) N (xs ++ news) → Kept (fun b => v.ownBlock = some b) w w' → K (a.put o.dst (.slice av N cv)) w') :
    if Region.wanted o (yielded ops a.tmps) = true then Oper.wp P o a w K Q else E := by
  have hw : Region.wanted o (yielded ops a.tmps) = true := by simp [Region.wanted, hgd]
  rw [if_pos hw]
  refine wp_append_own w s x t ho base e i z size bytes ht hi hz hsize hby hzs hsz v n xs hs hown ad m c news hx hl hnews h1 h63 hbytes hbase fun v' w' h2 h3 _ => ?_
  rw [hN] at h2
  obtain ⟨av, cv, rfl⟩ := ownsRow_shape h2
  exact h av cv w' h2 ⟨h3.os, h3.tape, h3.output, h3.size, fun q hq hn => h3.block q hq (fun e => hn e.symm)⟩

theorem news_two {w : World} {H : Nat} {u v : Value} {t : TypeId} (hH : w.heap.size = H) : ∀ j x, [u, v][j]? = some x → (w.alloc (.cells #[u, v] t)).cell? ((⟨H, 0, none⟩ : Addr).add j) = some x := by
  subst hH
  intro j x hj
  have hadd : (⟨w.heap.size, 0, none⟩ : Addr).add j = ⟨w.heap.size, j, none⟩ := by unfold Addr.add; split <;> simp_all
  rw [hadd, cell_of_row _ w.heap.size j #[u, v] t (0, 0) (heap_alloc_new w _)]
  simpa using hj

theorem ownsRow_addr {w : World} {B : Nat} {e : TypeId} {size n : Nat} {a : Option Addr} {c : Nat} {xs : List Value} (h : w.ownsRow B e size (.slice a n c) n xs) (hn : 0 < n ∨ ∃ g, (Value.slice a n c).ownBlock = some g) : ∃ g, a = some ⟨g, 0, none⟩ ∧ n ≤ c := by
  rcases h.2 with ⟨h', h0⟩ | ⟨g, cap, cur, h', _, _, hnc, _⟩
  · simp only [Value.slice.injEq] at h'
    rcases hn with hn | ⟨g, hg⟩
    · omega
    · rw [h'.1] at hg; simp [Value.ownBlock] at hg
  · simp only [Value.slice.injEq, true_and] at h'
    exact ⟨g, h'.1, by rw [h'.2]; exact hnc⟩
theorem GC.addr {B T : Nat} {w : World} {a : Option Addr} {c n : Nat} {D : Nat → Int} {P : Nat → List Int} (h : GC B T w (.slice a n c) D P n) (hn : 0 < n ∨ ∃ g, (Value.slice a n c).ownBlock = some g) : ∃ g, a = some ⟨g, 0, none⟩ ∧ n ≤ c := by
  obtain ⟨A, C, h1, _⟩ := h
  exact ownsRow_addr h1 hn

set_option maxRecDepth 100000 in
set_option maxHeartbeats 3200000 in
theorem l2Copy_at (a : Option Addr) (c n : Nat) (D : Nat → Int) (P : Nat → List Int) (w : World) (h : RdC w a D P n) (hn : n ≤ 1048576) (hP : ∀ i, i < n → 0 < (P i).length ∧ (P i).length ≤ 1048576) :
    Calls Tryz.prog 50 #[.slice a n c] w fun e w' => ∃ g cv, e = .returned (.slice (some ⟨g, 0, none⟩) n cv) ∧ n ≤ cv ∧ GC w.heap.size w'.heap.size w' (.slice (some ⟨g, 0, none⟩) n cv) D P n ∧ Below w.heap.size w w' := by
  obtain ⟨i1, ki, kz0, kz1, kz2⟩ := info_parts Tryz.infoCh
  obtain ⟨i0, hi0, hz0, hz1, hz2⟩ := info_parts Tryz.infoU8
  have HA := hide h
  have HP := hide hP
  clear h hP
  go_enter Tryz.func50, Tryz.ntmps50
  go_wp2
  go_loopw [3, 4] (fun v i wr => ∃ j : Nat, j ≤ n ∧ i = .int .i64 j ∧ GC w.heap.size wr.heap.size wr v D P j ∧ (∃ g, v.ownBlock = some g) ∧ Below w.heap.size w wr) (fun _ i _ => n - (intOf i).toNat)
  case atStart => exact ⟨0, Nat.zero_le _, rfl, ⟨fun _ => none, fun _ => 0, World.ownsRow_made w #[] 0 (Nat.le_refl _) (Nat.zero_le _) rfl, fun i hi => absurd hi (by omega), fun i i' g hi => absurd hi (by omega), fun i g hi => absurd hi (by omega), fun x hx => by simp [Value.ownBlock] at hx; subst hx; simp⟩, ⟨_, rfl⟩, below_alloc _ _⟩
  case round =>
    obtain ⟨j, hj, rfl, hG, hob, hbel⟩ := hrel
    obtain ⟨lv, lc, rfl⟩ := hG.shape
    have HW := hide hbel
    have HOb := hide hob
    have hsz := hbel.size
    clear hob
    by_cases hlt : j < n
    · obtain ⟨b1, o1, A1, C1, rfl, hb1, hc1⟩ := HA.out (by omega)
      obtain ⟨c1, e1, r1⟩ := hc1 j hlt
      have c1 := (hbel.cell (p := ⟨b1, o1 + j * 2, none⟩) hb1).trans c1
      have e1 := (hbel.cell (p := ⟨b1, o1 + j * 2 + 1, none⟩) hb1).trans e1
      have r1 := r1.below hbel
      obtain ⟨hp0, hp1⟩ := HP.out j hlt
      have hj0 : (0 : Int) ≤ (j : Int) := by omega
      have hj1 : (j : Int) < (n : Int) := by omega
      obtain ⟨A, C, h1, h2, h3, h4, h5⟩ := hG
      have HA1 := hide h1
      have HA2 := hide h2
      have HA3 := hide h3
      generalize A1 j = a1 at e1 r1
      generalize C1 j = d1 at e1
      generalize hxs : P j = xs at *
      generalize hdd : D j = dd at *
      have HX := hide (And.intro hdd hxs)
      clear hxs hdd
      obtain ⟨b2, o2, rfl, hb2, hc2⟩ := r1 (by intro e; subst e; simp at hp0)
      have hb1' : b1 < wr.heap.size := by omega
      have OWN0 : Hid ((wr.alloc (.cells #[] 5)).drew.ownsRow wr.heap.size 5 1 (.slice (some ⟨wr.heap.size, 0, none⟩) 0 0) 0 []) := World.ownsRow_made wr #[] 0 (Nat.le_refl _) (Nat.zero_le _) rfl
      have NEWS0 : Hid (∀ j u, (xs.map (Value.int .u8))[j]? = some u → (wr.alloc (.cells #[] 5)).drew.cell? ((⟨b2, o2, none⟩ : Addr).add j) = some u) := reads_news (w := (wr.alloc (.cells #[] 5)).drew) (fun i hi => ((below_alloc wr (.cells #[] 5)).cell (p := ⟨b2, o2 + i, none⟩) hb2).trans (hc2 i hi))
      have KC : Hid (∀ (W w2 : World) (S : Nat → Prop), W.cell? ⟨b1, o1 + j * 2, none⟩ = some (.int .i64 dd) ∧ W.cell? ⟨b1, o1 + j * 2 + 1, none⟩ = some (.slice (some ⟨b2, o2, none⟩) xs.length d1) → Kept S W w2 → ¬ S b1 → w2.cell? ⟨b1, o1 + j * 2, none⟩ = some (.int .i64 dd) ∧ w2.cell? ⟨b1, o1 + j * 2 + 1, none⟩ = some (.slice (some ⟨b2, o2, none⟩) xs.length d1)) := by
        intro W w2 S hs hk hn
        have hlt := World.block_lt_of_cell? W ⟨b1, o1 + j * 2, none⟩ hs.1
        exact ⟨(hk.cell (p := ⟨b1, o1 + j * 2, none⟩) hlt hn).trans hs.1, (hk.cell (p := ⟨b1, o1 + j * 2 + 1, none⟩) hlt hn).trans hs.2⟩
      have hm0 : 0 + xs.length ≤ maxLen := by unfold maxLen; omega
      have hm0' : (0 + xs.length) * 1 ≤ 140737488355328 := by omega
      have hm1 : j + 1 ≤ maxLen := by unfold maxLen; omega
      have hm2 : (j + 1) * 32 ≤ 140737488355328 := by omega
      have hfar : ¬ (Value.slice (some ⟨wr.heap.size, 0, none⟩) 0 0).ownBlock = some b1 := by simp [Value.ownBlock]; omega
      have hfar2 : ¬ (Value.slice lv j lc).ownBlock = some b1 := fun hx => by have := (HA1.out.lt b1 hx).1; omega
      have hne1 : wr.heap.size ≠ b1 := by omega
      clear h1 h2 h3 h4 h5 hc1 hc2 hbel
      go_wp2_with fail
      go_region_held3 (fun w' => w'.cell? ⟨b1, o1 + j * 2, none⟩ = some (.int .i64 dd) ∧ w'.cell? ⟨b1, o1 + j * 2 + 1, none⟩ = some (.slice (some ⟨b2, o2, none⟩) xs.length d1))
        (first
          | exact KC.out _ _ _ (by assumption) (by assumption) hfar
          | exact KC.out _ _ _ (by assumption) (by assumption) hfar2
          | go_keep)
        ((first
          | (refine step_append_own (by rfl) (.tmp 18) (.tmp 23) 22 (by rfl) wr.heap.size 5 i0 (.int .u8 0) 1 1 Tryz.underlying22 hi0 hz0 hz1 hz2 rfl (by decide) (.slice (some ⟨wr.heap.size, 0, none⟩) 0 0) 0 [] (by rfl) OWN0.out ⟨b2, o2, none⟩ xs.length d1 (xs.map (Value.int .u8)) (by rfl) (by simp) NEWS0.out (ints_one _ _) xs.length (by simp) hm0 hm0' (by simp) ?_; intro av cv w1 hown1 hk1; obtain ⟨g, cap, hv, hg0, hgl, _⟩ := own_of_ownsRow (zs := xs) hown1 rfl hp0; simp only [Value.slice.injEq, true_and] at hv; obtain ⟨rfl, rfl⟩ := hv; have O1 := hide hown1; have BB1 := hide ((below_alloc wr (.cells #[] 5)).drew.trans (hk1.below (by simp) (fun k hk hS => by simp [Value.ownBlock] at hS; omega))); have hw1 : w1.heap.size ≠ b1 := (by have := BB1.out.size; omega); clear hown1)
          | (refine step_append_own (by rfl) (.tmp 12) (.tmp 26) 26 (by rfl) w.heap.size 65 i1 (.agg #[.int .i64 0, .slice none 0 0]) 2 32 Tryz.underlying26 ki kz0 kz1 kz2 rfl (by decide) (.slice lv j lc) j (flat j (chCells D P A C)) (by rfl) ((ownsRow_below HA1.out BB1.out).alloc _) ⟨w1.heap.size, 0, none⟩ 1 1 [.int .i64 dd, .slice (some ⟨g, 0, none⟩) xs.length cv] (by rfl) (by rfl) (news_two rfl) (by intro u hu; simp at hu; rcases hu with rfl | rfl <;> rfl) (j + 1) rfl hm1 hm2 (by have := BB1.out.size; simp; omega) ?_; intro av2 cv2 w2 hown2 hk2; have O2 := hide hown2; have K2 := hide (((Kept.refl (fun b => (Value.slice lv j lc).ownBlock = some b) w1).alloc _).trans hk2); clear hown2)))
      go_wp2
      go_roundw
      case rel =>
        refine ⟨j + 1, by omega, by go_num, ?_, ?_, ?_⟩
        · refine (GC.push HA1.out HA2.out HA3.out hsz BB1.out O1.out O2.out K2.out).congr (fun i hi => ?_) (fun i hi => ?_)
          · by_cases e : i = j
            · subst e; rw [upd_same]; exact HX.out.1
            · rw [upd_other _ _ _ e]
          · by_cases e : i = j
            · subst e; rw [upd_same]; exact HX.out.2
            · rw [upd_other _ _ _ e]
        · obtain ⟨g5, h5, _⟩ := ownsRow_addr O2.out (.inl (by omega))
          exact ⟨g5, by rw [h5]; rfl⟩
        · exact (below_next' HW.out BB1.out).trans (K2.out.below (Nat.le_trans hsz BB1.out.size) (fun k hk hx => by have := (HA1.out.lt k hx).1; omega))
      case measure => simp [intOf]; omega
    · have hje : j = n := by omega
      subst hje
      obtain ⟨g5, h5, h6⟩ := hG.addr (.inr HOb.out)
      subst h5
      have HG := hide hG
      clear hG hbel
      go_wp2
      go_ret
      exact ⟨_, _, rfl, h6, HG.out, HW.out⟩
theorem l2Copy_any (a : Option Addr) (c n : Nat) (D : Nat → Int) (P : Nat → List Int) (w : World) (h : RdC w a D P n) (hn : n ≤ 1048576) (hP : ∀ i, i < n → 0 < (P i).length ∧ (P i).length ≤ 1048576) :
    Calls Tryz.prog 50 #[.slice a n c] w fun e w' => ∃ av cv, e = .returned (.slice av n cv) ∧ GC w.heap.size w'.heap.size w' (.slice av n cv) D P n ∧ Below w.heap.size w w' :=
  (l2Copy_at a c n D P w h hn hP).mono fun e w' ⟨g, cv, he, _, hG, hb⟩ => ⟨_, cv, he, hG, hb⟩

end Go.Proofs.YtejfcapocikjmaaGreatDoor

namespace Go.Proofs.YtejfcapocikjmaaGreatDoor
open Go.RowKit Go.Maps
set_option linter.unusedVariables false

set_option maxRecDepth 100000 in
set_option maxHeartbeats 1600000 in
theorem mapChunks_from (a : Option Addr) (c n : Nat) (D : Nat → Int) (P : Nat → List Int) (w0 w : World) (h : RdC w0 a D P n) (hb0 : Below w0.heap.size w0 w) (hR : RightC D P n) :
    Calls Tryz.prog 28 #[.slice a n c] w fun e w' => ∃ b, e = .returned (.map (some b)) ∧ w.heap.size ≤ b ∧ Holds w' b n (lst D P n) w0.heap.size ∧ Below w.heap.size w w' := by
  have HA := hide h
  have HR := hide hR
  have HB0 := hide hb0
  have hn := hR.many
  clear h hR hb0
  have hmm : ∀ u : World, (Instr.makeMap 68 (some (.int .i64 (n : Int)))).run Tryz.prog u = .ok (.map (some u.heap.size)) (u.alloc (.map #[] 0)) := fun u => by simp [Instr.makeMap, asInt, asIntOf, Result.andThen]
  go_enter Tryz.func28, Tryz.ntmps28
  go_wp2
  go_loopw [5, 11] (fun _ i wr => ∃ k : Nat, k ≤ n ∧ i = .int .i64 k ∧ Holds wr w.heap.size k (lst D P k) w0.heap.size ∧ Below w.heap.size w wr) (fun _ i _ => n - (intOf i).toNat)
  case atStart => exact ⟨0, Nat.zero_le _, rfl, Holds.made w _, below_alloc _ _⟩
  case round =>
    obtain ⟨k, hk, rfl, hH, hbel⟩ := hrel
    have HH := hide hH
    have HW := hide hbel
    have HWW := hide (below_next HB0.out hbel)
    clear hH hbel
    by_cases hlt : k < n
    · obtain ⟨b1, o1, A1, C1, rfl, hb1, hc1⟩ := HA.out (by omega)
      obtain ⟨c1, e1, r1⟩ := hc1 k hlt
      have c1 := (HWW.out.cell (p := ⟨b1, o1 + k * 2, none⟩) hb1).trans c1
      have e1 := (HWW.out.cell (p := ⟨b1, o1 + k * 2 + 1, none⟩) hb1).trans e1
      have hpos := (HR.out.u8len hlt).1
      have hT := r1.lt (by intro e; simp [e] at hpos)
      have r1 := r1.below HWW.out
      have hnew := HR.out.new hlt
      have hwf := HR.out.wf hlt
      have HS := hide (lst_succ D P k)
      generalize A1 k = a1 at e1 r1 hT
      generalize C1 k = d1 at e1
      generalize P k = xs at *
      generalize D k = dd at *
      generalize lst D P k = L at *
      obtain ⟨Dt, hown, hput⟩ := (HH.out.below (below_alloc wr (.cells #[.int .i64 dd, .slice a1 xs.length d1] 65))).put (c := d1) hnew (r1.below (below_alloc _ _)) hT
      have HO := hide hown
      have HPt := hide hput
      have HK := hide (key64 hwf)
      clear hc1 r1 hown hput hnew hwf hT hpos
      go_wp2_with (first | (at_mapUpdate; refine wpList_mapUpdate_own _ rfl _ _ _ 68 rfl 2 65 law64 Tryz.underlying68 RV w.heap.size k Dt rfl HO.out (by unfold maxLen; omega) _ _ _ rfl rfl HK.out (.held (chv dd a1 xs.length d1)) [] rfl ?_; intro w1 hown1 hgrow1; have HH1 := hide (HPt.out w1 hown1 hgrow1); have HG1 := hide hgrow1; clear hown1 hgrow1) | go_in)
      go_roundw
      case rel => exact ⟨k + 1, by omega, by go_num, by rw [HS.out]; exact HH1.out, (below_next HW.out (below_alloc _ _)).trans ((Kept.of_grown HG1.out).below (Nat.le_trans HW.out.size (by simp)) (fun j hj e => by omega))⟩
      case measure => simp [intOf]; omega
    · have hke : k = n := by omega
      subst hke
      go_wp2
      go_ret
      exact ⟨_, rfl, Nat.le_refl _, HH.out, HW.out⟩
def OwnF (B fb : Nat) (w : World) (W : List Wn) (F : List Int) (L : List Ch) : Prop :=
  ∃ wa wc ps fa fc bm N, Bx3 w fb (.slice wa W.length wc) (.slice fa F.length fc) (.map (some bm)) ∧ OwnP (fb + 1) w (.slice wa W.length wc) ps W ∧ (w.ownsRow B 2 1 (.slice fa F.length fc) F.length (F.map (Value.int .i64)) ∧ ∀ b, (Value.slice fa F.length fc).ownBlock = some b → b < fb) ∧ Holds w bm N L B ∧ (B ≤ bm ∧ bm < fb ∧ N ≤ 1000)
theorem news1 {w : World} {H : Nat} {u : Value} {t : TypeId} (hH : w.heap.size = H) : ∀ j x, [u][j]? = some x → (w.alloc (.cells #[u] t)).cell? ((⟨H, 0, none⟩ : Addr).add j) = some x := by
  intro j x hj
  have hj0 : j = 0 := by
    rcases Nat.eq_zero_or_pos j with h | h
    · exact h
    · rw [List.getElem?_eq_none (by simp; omega)] at hj; cases hj
  subst hj0
  subst hH
  obtain rfl : u = x := by simpa using hj
  have hadd : (⟨w.heap.size, 0, none⟩ : Addr).add 0 = ⟨w.heap.size, 0, none⟩ := by simp [Addr.add]
  rw [hadd]
  simp
set_option maxRecDepth 100000 in
set_option maxHeartbeats 6400000 in
theorem fetchingOf_any (wa : Option Addr) (wk : Nat) (W : List Wn) (fa : Option Addr) (fc : Nat) (F : List Int) (ca : Option Addr) (cc n : Nat) (D : Nat → Int) (P : Nat → List Int) (w : World) (h : RdF w wa W fa F ca D P n) (hR : RightC D P n) (hWl : W.length ≤ 1048576) (hFl : F.length ≤ 1048576) :
    Calls Tryz.prog 15 #[fetV wa W.length wk fa F.length fc ca n cc] w fun e w' => ∃ fb, e = .returned (.pointer (some ⟨fb, 0, none⟩)) ∧ OwnF w.heap.size fb w' W F (lst D P n) ∧ w.heap.size ≤ fb ∧ Below w.heap.size w w' := by
  obtain ⟨i1, ki, kz0, kz1, kz2⟩ := info_parts Tryz.infoPW
  have HC := hide h.chunks
  have HF := hide h.failed
  have HW := hide h.wants
  have HRt := hide hR
  have hnm : n ≤ 1000 := by have := hR.many; omega
  clear h hR
  have B0 := hide (below_alloc w (.cells #[.slice wa W.length wk, .slice fa F.length fc, .slice ca n cc] 28))
  have X0 := hide (Bx3.new w (.slice wa W.length wk) (.slice fa F.length fc) (.slice ca n cc) 28)
  unfold fetV
  go_enter Tryz.func15, Tryz.ntmps15
  obtain ⟨⟨t0, t1, t2⟩, t3, t4, t5⟩ := X0.out
  go_upto_region 1 with fail
  clear t0 t1 t2 t3 t4 t5
  generalize w.alloc (.cells #[.slice wa W.length wk, .slice fa F.length fc, .slice ca n cc] 28) = W0 at *
  have KB : Hid (∀ w' : World, Below W0.heap.size W0 w' → w'.cell? ⟨w.heap.size, 1, none⟩ = some (.slice fa F.length fc) ∧ w'.cell? ⟨w.heap.size, 2, none⟩ = some (.slice ca n cc)) := hide (fun w' hb' => ⟨(X0.out.below hb').1.2.1, (X0.out.below hb').1.2.2⟩)
  have HMP := hide (fun (u : World) (hu : Below W0.heap.size W0 u) => mapChunks_from ca cc n D P w u HC.out (below_next B0.out hu) HRt.out)
  have HCP := hide (fun (u : World) (hu : Below W0.heap.size W0 u) => copiedInts_any fa fc F.length F u (HF.out.below (below_next B0.out hu)) rfl hFl)
  have hsB := B0.out.size
  go_cut [3] from 6 to 13 (fun v3 wk' => ∃ fb av cv bm, v3 = .pointer (some ⟨fb, 0, none⟩) ∧ Hid (Bx3 wk' fb (.slice none 0 0) (.slice av F.length cv) (.map (some bm))) ∧ Hid (wk'.ownsRow w.heap.size 2 1 (.slice av F.length cv) F.length (F.map (Value.int .i64)) ∧ ∀ b, (Value.slice av F.length cv).ownBlock = some b → b < fb) ∧ Hid (Holds wk' bm n (lst D P n) w.heap.size) ∧ (w.heap.size ≤ bm ∧ bm < fb ∧ w.heap.size < fb ∧ wk'.heap.size = fb + 1) ∧ Hid (Below W0.heap.size W0 wk'))
  case first =>
    go_region_held3 (fun w' => w'.cell? ⟨w.heap.size, 1, none⟩ = some (.slice fa F.length fc) ∧ w'.cell? ⟨w.heap.size, 2, none⟩ = some (.slice ca n cc)) (first | exact KB.out _ BB2.out | exact KB.out _ BB1.out | exact KB.out _ (Below.refl _ _).drew | exact KB.out _ (below_next BB2.out (below_alloc _ _)) | go_keep)
      ((first
        | (go_at_call 28; refine (HMP.out _ (by first | exact BB1.out | exact (Below.refl _ _).drew)).mono ?_; rintro r w2 ⟨bm, rfl, hbm, hH1, hb1⟩; (first | (have BB2 := hide (below_next BB1.out hb1)) | (have BB1 := hide ((Below.refl W0.heap.size W0).drew.trans hb1))); have H1 := hide hH1; have BM := hide hb1; clear hH1 hb1)
        | (go_at_call 40; refine (HCP.out _ (by first | exact BB1.out | exact (Below.refl _ _).drew)).mono ?_; rintro r w3 ⟨av, cv, rfl, ho1, hb1⟩; (first | (have BB2 := hide (below_next BB1.out hb1)) | (have BB1 := hide ((Below.refl W0.heap.size W0).drew.trans hb1))); have O1 := hide ho1; have BC := hide hb1; clear ho1 hb1)))
    go_wp2_with fail
    go_meet
    case rel =>
      have hz1 := BB1.out.size
      have hz2 := BM.out.size
      have hz3 : W0.drew.heap.size = W0.heap.size := rfl
      refine ⟨w2.heap.size, av, cv, bm, rfl, hide (Bx3.new w2 _ _ _ _), hide ⟨ownsRow_below (ownsRow_mono (ownsRow_below O1.out BM.out) (by omega)) (below_alloc _ _), fun b hb => by have := (O1.out.lt b hb).2; omega⟩, hide (H1.out.below (below_alloc _ _)), ⟨by omega, H1.out.lt, ?_, by simp⟩, hide (below_next BB2.out (below_alloc _ _))⟩
      have := X0.out.lt
      omega
  case rest =>
    obtain ⟨fb, av, cv, bm, rfl, XF, OFl, HH, ⟨hbm1, hbm2, hfb, hsz⟩, BW0⟩ := hcut
    obtain ⟨WF, hWF⟩ : ∃ x, x = wc := ⟨_, rfl⟩
    subst hWF
    have BF := hide (below_next B0.out BW0.out)
    obtain ⟨⟨t0, t1, t2⟩, -, -, -⟩ := X0.out.below BW0.out
    clear HMP HCP KB BW0 X0 B0 hsB
    go_wp2_with fail
    clear t0 t1 t2
    go_loopw [5, 17] (fun _ i wr => ∃ (k : Nat) (ps : List Nat) (a : Option Addr) (c : Nat), k ≤ W.length ∧ i = .int .i64 k ∧ Hid (Bx3 wr fb (.slice a k c) (.slice av F.length cv) (.map (some bm))) ∧ Hid (OwnP (fb + 1) wr (.slice a k c) ps (W.take k)) ∧ Hid (Kept (fun x => x = fb) WF wr)) (fun _ i _ => W.length - (intOf i).toNat)
    case atStart => exact ⟨0, [], none, 0, Nat.zero_le _, rfl, XF, hide (by simpa using OwnP.nil _ _), hide (Kept.refl _ _)⟩
    case round =>
      obtain ⟨k, ps, a, c, hk, rfl, X, OP, KP⟩ := hrel
      have BW := hide (BF.out.trans (KP.out.below (B := w.heap.size) BF.out.size (fun j hj e => by omega)))
      by_cases hlt : k < W.length
      · obtain ⟨b1, o1, rfl, hb1, hc1⟩ := HW.out (by intro e; simp [e] at hlt)
        obtain ⟨c1, c2⟩ := hc1 k hlt
        have c1 := (BW.out.cell (p := ⟨b1, o1 + k * 2, none⟩) hb1).trans c1
        have c2 := (BW.out.cell (p := ⟨b1, o1 + k * 2 + 1, none⟩) hb1).trans c2
        have HTS := hide (take_snoc hlt)
        generalize (W.getD k (0, 0)).1 = d at *
        generalize (W.getD k (0, 0)).2 = t at *
        have hlk : (W.take k).length = k := by simp; omega
        have A1 := hide (below_alloc wr (.cells #[.int .i64 d, .int .i64 t] 78))
        have P1 := hide (Two.new wr (.int .i64 d) (.int .i64 t) 78)
        have X1 := hide (X.out.below A1.out)
        have OP1 := hide (OP.out.below A1.out)
        have R1 : Hid ((wr.alloc (.cells #[.int .i64 d, .int .i64 t] 78)).ownsRow (fb + 1) 85 1 (.slice a k c) k (ps.map ptrV)) := hide (by have := OP1.out.row; rw [hlk] at this; exact this)
        have hsw : fb + 1 ≤ wr.heap.size := by have := KP.out.size; omega
        have hm1 : k + 1 ≤ maxLen := by unfold maxLen; omega
        have hm2 : (k + 1) * 8 ≤ 140737488355328 := by omega
        clear hc1
        go_upto_region 5 with fail
        clear c1 c2
        generalize hW1 : wr.alloc (.cells #[.int .i64 d, .int .i64 t] 78) = W1 at *
        have HSW : Hid (W1.heap.size = wr.heap.size + 1) := hide (by rw [← hW1]; simp)
        have hsW1 : fb + 1 ≤ W1.heap.size := by have := HSW.out; omega
        have K1 := hide (KP.out.trans (Kept.of_below A1.out))
        generalize wr.heap.size = q at *
        clear hW1
        obtain ⟨d0, d1⟩ := P1.out
        obtain ⟨⟨x0, x1, x2⟩, x3, x4, x5⟩ := X1.out
        have hfbl := X1.out.lt
        go_region_law
          ((refine step_append_own (by rfl) (.tmp 25) (.tmp 32) 82 (by rfl) (fb + 1) 85 i1 (.pointer none) 1 8 Tryz.underlying82 ki kz0 kz1 kz2 rfl (by decide) (.slice a k c) k (ps.map ptrV) (by rfl) ((R1.out.alloc _).alloc _) ⟨W1.heap.size + 1, 0, none⟩ 1 1 [ptrV W1.heap.size] (by rfl) (by rfl) (news1 (by simp)) (by intro u hu; simp at hu; subst hu; rfl) (k + 1) rfl hm1 hm2 (by simp; omega) ?_; intro a' c' w3 hrow3 hk3; have O3 := hide hrow3; have K3 := hide hk3; have X3 := hide ((((X1.out.below (Below.refl _ _).drew).below (below_alloc _ _)).below (below_alloc _ _)).kept hk3 (fun e => by have := (R1.out.lt _ e).1; omega)); clear hrow3 hk3; obtain ⟨⟨y0, y1, y2⟩, y3, y4, y5⟩ := X3.out))
        all_goals
          have BA := hide ((below_next (below_alloc W1 (.cells #[.int .i64 d, .int .i64 t] 78)) (below_alloc _ (.cells #[Value.pointer (some ⟨W1.heap.size, 0, none⟩)] 85))).drew)
          have PB := hide ((Box.new W1 (.int .i64 d) (.int .i64 t) 78).below ((below_alloc _ (.cells #[Value.pointer (some ⟨W1.heap.size, 0, none⟩)] 85)).drew))
          have OP3 := hide ((OP1.out.below BA.out).push (p := W1.heap.size) PB.out hsW1 (fun i hi e => by
            have h1 := (OP1.out.box i hi).2.1.lt
            rw [e] at h1
            exact absurd h1 (Nat.lt_irrefl _)) (by rw [hlk]; exact O3.out) K3.out (fun b hb e => by
            have h1 := (OP1.out.row.lt b hb).2
            rw [← e] at h1
            exact absurd h1 (Nat.lt_irrefl _)))
          rw [← HTS.out] at OP3
          have KK := hide (((K1.out.trans (Kept.of_below BA.out)).trans_own K3.out (fun b hb e => by have := (R1.out.lt b e).1; omega)).trans (Kept.one w3 fb 0 (.slice a' (k + 1) c')))
          clear x0 x1 x2 x3 x4 x5 y0 y1 y2 y3 y4 y5 d0 d1
          go_wp2_with fail
          go_roundw
          case rel => exact ⟨k + 1, ps ++ [W1.heap.size], a', c', by omega, by go_num, hide (X3.out.set0 _), hide (OP3.out.kept (Kept.one w3 fb 0 _) (fun b hb e => by omega)), KK⟩
          case measure => simp [intOf]; omega
      · have hkl : k = W.length := by omega
        subst hkl
        go_wp2_with fail
        go_ret
        refine ⟨fb, rfl, ⟨a, c, ps, av, cv, bm, n, X.out, ?_, ⟨ownsRow_kept OFl.out.1 KP.out (fun b hb e => by have := OFl.out.2 b hb; omega), OFl.out.2⟩, HH.out.kept KP.out (by omega) (fun x hx => by omega), hbm1, hbm2, hnm⟩, by omega, BW.out⟩
        have := OP.out
        rw [List.take_length] at this
        exact this
end Go.Proofs.YtejfcapocikjmaaGreatDoor

