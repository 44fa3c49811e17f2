/-
  Texts put together: Lay Rise Copy.
-/
import Derived.Shelf.SlIterI.Nil
import Derived.Shelf.SortM.Plain
import Derived.Shelf.SortM.SortNone
import Derived.Ground.GgzProg
import Derived.Ground.SlgmProg
import Derived.Test.YtejipahfodhmjaaGreatProg
import Derived.Test.YtejipahfodhmjaaGreatKLater11
import Derived.Deep.RegionHeld3
import Derived.Deep.AppendLies
import Derived.Deep.DrawnRows
namespace Go.Proofs.YtejipahfodhmjaaGreat
open Go.RowKit Go.Maps Go.Sort Go.Shelf
set_option linter.unusedVariables false
def Tryz.keysA_ren : Go.Shelf.Ren := ⟨fun | 7 => 96 | 10 => 136 | n => n, fun | 23 => 67 | 26 => 2 | 3 => 108 | 28 => 155 | 0 => 0 | 27 => 154 | 33 => 181 | 4 => 4 | n => n, fun | n => n⟩
theorem Tryz.keysA : Go.Proofs.SlLaysZI.n7 Tryz.prog Tryz.keysA_ren := {
  mixed := by kernel_rfl
  f7 := ⟨Tryz.f96.name, by decide, Tryz.func96.trans (congrArg some (by kernel_rfl))⟩
  f10 := ⟨Tryz.f136.name, by decide, Tryz.func136.trans (congrArg some (by kernel_rfl))⟩
  t0 := Tryz.underlying0
  a0 := Tryz.isAgg0
  z0 := Tryz.sizeOf0
  v0 := Tryz.zeroValue0
  t4 := Tryz.underlying4
  a4 := Tryz.isAgg4
  z4 := Tryz.sizeOf4
  v4 := Tryz.zeroValue4
  t23 := Tryz.underlying67
  a23 := Tryz.isAgg67
  z23 := Tryz.sizeOf67
  v23 := Tryz.zeroValue67
  t26 := Tryz.underlying2
  a26 := Tryz.isAgg2
  z26 := Tryz.sizeOf2
  v26 := Tryz.zeroValue2
  t27 := Tryz.underlying154
  a27 := Tryz.isAgg154
  z27 := Tryz.sizeOf154
  v27 := Tryz.zeroValue154
  t28 := Tryz.underlying155
  a28 := Tryz.isAgg155
  z28 := Tryz.sizeOf155
  v28 := Tryz.zeroValue155
  t33 := Tryz.underlying181
  a33 := Tryz.isAgg181
  z33 := Tryz.sizeOf181
  v33 := Tryz.zeroValue181 }
def Tryz.sortedA_ren : Go.Shelf.Ren := ⟨fun | 6 => 95 | 8 => 134 | 9 => 135 | 11 => 160 | 13 => 162 | 12 => 161 | 23 => 189 | 24 => 190 | 14 => 180 | 15 => 181 | 16 => 182 | 17 => 183 | 18 => 184 | 19 => 185 | 20 => 186 | 21 => 187 | 22 => 188 | 25 => 206 | 26 => 207 | 27 => 208 | 28 => 209 | 29 => 210 | 30 => 211 | 31 => 219 | n => n, fun | 26 => 2 | 28 => 155 | 24 => 31 | 0 => 0 | 3 => 3 | 37 => 152 | 48 => 151 | 50 => 233 | 4 => 4 | 40 => 224 | 39 => 223 | 45 => 229 | 5 => 5 | 9 => 9 | 51 => 244 | 55 => 248 | 57 => 254 | 58 => 255 | 33 => 181 | n => n, fun | n => n⟩
theorem Tryz.sortedA : Go.Proofs.SlLaysZI.n6 Tryz.prog Tryz.sortedA_ren := {
  mixed := by kernel_rfl
  f6 := ⟨Tryz.f95.name, by decide, Tryz.func95.trans (congrArg some (by kernel_rfl))⟩
  f8 := ⟨Tryz.f134.name, by decide, Tryz.func134.trans (congrArg some (by kernel_rfl))⟩
  f11 := ⟨Tryz.f160.name, by decide, Tryz.func160.trans (congrArg some (by kernel_rfl))⟩
  t0 := Tryz.underlying0
  a0 := Tryz.isAgg0
  z0 := Tryz.sizeOf0
  v0 := Tryz.zeroValue0
  t24 := Tryz.underlying31
  a24 := Tryz.isAgg31
  z24 := Tryz.sizeOf31
  v24 := Tryz.zeroValue31
  t26 := Tryz.underlying2
  a26 := Tryz.isAgg2
  z26 := Tryz.sizeOf2
  v26 := Tryz.zeroValue2
  t28 := Tryz.underlying155
  a28 := Tryz.isAgg155
  z28 := Tryz.sizeOf155
  v28 := Tryz.zeroValue155
  i26 := by kernel_rfl }
def Tryz.sortA_ren : Go.Shelf.Ren := ⟨fun | 5 => 135 | 8 => 162 | 7 => 161 | 19 => 189 | 20 => 190 | 10 => 180 | 11 => 181 | 12 => 182 | 13 => 183 | 14 => 184 | 15 => 185 | 16 => 186 | 17 => 187 | 18 => 188 | 30 => 206 | 31 => 207 | 32 => 208 | 33 => 209 | 34 => 210 | 35 => 211 | 40 => 219 | n => n, fun | 23 => 31 | 25 => 2 | 3 => 3 | 32 => 152 | 22 => 31 | 0 => 0 | 44 => 151 | 46 => 233 | 4 => 4 | 36 => 224 | 35 => 223 | 41 => 229 | 5 => 5 | 9 => 9 | 53 => 244 | 57 => 248 | 63 => 254 | 64 => 255 | n => n, fun | n => n⟩
theorem Tryz.sortA : Go.Proofs.SlLaysM.n5 Tryz.prog Tryz.sortA_ren := {
  mixed := by kernel_rfl
  f5 := ⟨Tryz.f135.name, by decide, Tryz.func135.trans (congrArg some (by kernel_rfl))⟩
  f7 := ⟨Tryz.f161.name, by decide, Tryz.func161.trans (congrArg some (by kernel_rfl))⟩
  f8 := Tryz.func162.trans (congrArg some (by kernel_rfl))
  f10 := ⟨Tryz.f180.name, by decide, Tryz.func180.trans (congrArg some (by kernel_rfl))⟩
  f11 := ⟨Tryz.f181.name, by decide, Tryz.func181.trans (congrArg some (by kernel_rfl))⟩
  f12 := ⟨Tryz.f182.name, by decide, Tryz.func182.trans (congrArg some (by kernel_rfl))⟩
  f13 := ⟨Tryz.f183.name, by decide, Tryz.func183.trans (congrArg some (by kernel_rfl))⟩
  f14 := ⟨Tryz.f184.name, by decide, Tryz.func184.trans (congrArg some (by kernel_rfl))⟩
  f15 := ⟨Tryz.f185.name, by decide, Tryz.func185.trans (congrArg some (by kernel_rfl))⟩
  f16 := ⟨Tryz.f186.name, by decide, Tryz.func186.trans (congrArg some (by kernel_rfl))⟩
  f17 := ⟨Tryz.f187.name, by decide, Tryz.func187.trans (congrArg some (by kernel_rfl))⟩
  f18 := ⟨Tryz.f188.name, by decide, Tryz.func188.trans (congrArg some (by kernel_rfl))⟩
  f19 := Tryz.func189.trans (congrArg some (by kernel_rfl))
  f20 := Tryz.func190.trans (congrArg some (by kernel_rfl))
  f30 := ⟨Tryz.f206.name, by decide, Tryz.func206.trans (congrArg some (by kernel_rfl))⟩
  f31 := Tryz.func207.trans (congrArg some (by kernel_rfl))
  f32 := Tryz.func208.trans (congrArg some (by kernel_rfl))
  f33 := ⟨Tryz.f209.name, by decide, Tryz.func209.trans (congrArg some (by kernel_rfl))⟩
  f34 := ⟨Tryz.f210.name, by decide, Tryz.func210.trans (congrArg some (by kernel_rfl))⟩
  f35 := ⟨Tryz.f211.name, by decide, Tryz.func211.trans (congrArg some (by kernel_rfl))⟩
  f40 := ⟨Tryz.f219.name, by decide, Tryz.func219.trans (congrArg some (by kernel_rfl))⟩
  t0 := Tryz.underlying0
  a0 := Tryz.isAgg0
  z0 := Tryz.sizeOf0
  v0 := Tryz.zeroValue0
  t3 := Tryz.underlying3
  a3 := Tryz.isAgg3
  z3 := Tryz.sizeOf3
  v3 := Tryz.zeroValue3
  t4 := Tryz.underlying4
  a4 := Tryz.isAgg4
  z4 := Tryz.sizeOf4
  v4 := Tryz.zeroValue4
  t5 := Tryz.underlying5
  a5 := Tryz.isAgg5
  z5 := Tryz.sizeOf5
  v5 := Tryz.zeroValue5
  t9 := Tryz.underlying9
  a9 := Tryz.isAgg9
  z9 := Tryz.sizeOf9
  v9 := Tryz.zeroValue9
  t22 := Tryz.underlying31
  a22 := Tryz.isAgg31
  z22 := Tryz.sizeOf31
  v22 := Tryz.zeroValue31
  t23 := Tryz.underlying31
  a23 := Tryz.isAgg31
  z23 := Tryz.sizeOf31
  v23 := Tryz.zeroValue31
  t25 := Tryz.underlying2
  a25 := Tryz.isAgg2
  z25 := Tryz.sizeOf2
  v25 := Tryz.zeroValue2
  t32 := Tryz.underlying152
  a32 := Tryz.isAgg152
  z32 := Tryz.sizeOf152
  v32 := Tryz.zeroValue152
  t35 := Tryz.underlying223
  a35 := Tryz.isAgg223
  z35 := Tryz.sizeOf223
  v35 := Tryz.zeroValue223
  t36 := Tryz.underlying224
  a36 := Tryz.isAgg224
  z36 := Tryz.sizeOf224
  v36 := Tryz.zeroValue224
  t41 := Tryz.underlying229
  a41 := Tryz.isAgg229
  z41 := Tryz.sizeOf229
  v41 := Tryz.zeroValue229
  t44 := Tryz.underlying151
  a44 := Tryz.isAgg151
  z44 := Tryz.sizeOf151
  v44 := Tryz.zeroValue151
  t46 := Tryz.underlying233
  a46 := Tryz.isAgg233
  z46 := Tryz.sizeOf233
  v46 := Tryz.zeroValue233
  t53 := Tryz.underlying244
  a53 := Tryz.isAgg244
  z53 := Tryz.sizeOf244
  v53 := Tryz.zeroValue244
  t57 := Tryz.underlying248
  a57 := Tryz.isAgg248
  z57 := Tryz.sizeOf248
  v57 := Tryz.zeroValue248
  t63 := Tryz.underlying254
  a63 := Tryz.isAgg254
  z63 := Tryz.sizeOf254
  v63 := Tryz.zeroValue254
  t64 := Tryz.underlying255
  a64 := Tryz.isAgg255
  z64 := Tryz.sizeOf255
  v64 := Tryz.zeroValue255 }
end Go.Proofs.YtejipahfodhmjaaGreat

namespace Go.Proofs.YtejipahfodhmjaaGreat
open Go.RowKit Go.Maps
set_option linter.unusedVariables false

theorem sortsA (m : Nat) : AnyZI.SortsIn Tryz.prog Tryz.sortedA_ren Fence.wide m :=
  ⟨fun blk off cap ss W hH hblk hsz => callsIn_wide.2 (AnyM.slices_Sort_int Tryz.sortA blk off cap ss W hH hblk hsz),
   fun p cap W => callsIn_wide.2 (AnyM.slices_Sort_int_none Tryz.sortA p cap W)⟩

theorem keysCall (mb : Option Nat) (W : World) : Calls Tryz.prog 96 #[.map mb] W fun e w' => e = .returned (.func (.func 136) #[] #[.pointer (some ⟨W.heap.size, 0, none⟩)]) ∧ w' = W.alloc (.cells #[.map mb] 67) :=
  (callsIn_wide (n := 5)).1 (AnyZI.keys_in Tryz.keysA Fence.wide 5 trivial rfl mb W)

set_option maxHeartbeats 1000000 in
theorem sortedCall {H : Type} (b nn : Nat) (D0 : DataW H) (R : Value → Option (DataW H × List MemPlace)) (w : World) (hown : w.ownsMap Tryz.prog 2 R b nn D0) (hmax : Maps.size D0 ≤ maxLen) (hbytes : Maps.size D0 * 8 ≤ 140737488355328) :
    Calls Tryz.prog 95 #[.func (.func 136) #[] #[.pointer (some ⟨w.heap.size, 0, none⟩)]] (w.alloc (.cells #[.map (some b)] 67)) fun e w' => ∃ (v : Value) (ss : List Int), e = .returned v ∧ ss.Perm (intKeys D0) ∧
      w'.ownsRow (w.alloc (.cells #[.map (some b)] 67)).heap.size 2 1 v ss.length ((ss.mergeSort (fun x y => decide (x ≤ y))).map (Value.int .i64)) ∧ Below (w.alloc (.cells #[.map (some b)] 67)).heap.size (w.alloc (.cells #[.map (some b)] 67)) w' := by
  refine (callsIn_wide (n := 5)).1 ?_
  have hbl := hown.lt
  have hseq : SeqGives Fence.wide 2 Tryz.prog 136 #[.pointer (some ⟨w.heap.size, 0, none⟩)] encZ (fun ss => ss.Perm (intKeys D0)) (Maps.size D0) (w.alloc (.cells #[.map (some b)] 67)) :=
    AnyZI.keys_gives (ρ := Tryz.keysA_ren) { Tryz.keysA with } Fence.wide _ trivial rfl (by omega) w.heap.size b nn D0 _ (by simp) (by simp) (by
      obtain ⟨es, clock, hb, Ft, hs, hD⟩ := hown
      exact ⟨es, clock, (Below.heap_alloc _ _ b hbl).trans hb, Ft, hs, hD⟩)
  have cS := AnyZI.sorted_in Tryz.sortedA Fence.wide 5 trivial trivial trivial trivial rfl (by omega) (sortsA _) (enters_of Tryz.func135 (by kernel_rfl) rfl) 136 #[.pointer (some ⟨w.heap.size, 0, none⟩)] trivial (enters_of Tryz.func136 (by kernel_rfl) rfl) _ _ hmax hbytes _ hseq
  refine cS.mono ?_
  rintro e w' ⟨v, ss, he, hp, ho, _, hb⟩
  exact ⟨v, ss, he, hp, ho, hb⟩

theorem GC.shape {B T : Nat} {w : World} {v : Value} {D : Nat → Int} {P : Nat → List Int} {j : Nat} (h : GC B T w v D P j) : ∃ a c, v = .slice a j c := by
  obtain ⟨A, C, h1, _⟩ := h
  exact ownsRow_shape h1
theorem below_next' {B : Nat} {w w' w'' : World} (h : Below B w w') (k : Below w'.heap.size w' w'') (hB : B ≤ w'.heap.size := by omega) : Below B w w'' := h.trans (k.mono hB)

theorem GC.push {B : Nat} {w w1 w2 : World} {v v' : Value} {D : Nat → Int} {P : Nat → List Int} {j g c : Nat} {A : Nat → Option Addr} {C : Nat → Nat} {d : Int} {zs : List Int}
    (h1 : w.ownsRow B 108 2 v j (flat j (chCells D P A C)))
    (h2 : ∀ i, i < j → w.ownsRow B 5 1 (.slice (A i) (P i).length (C i)) (P i).length ((P i).map (Value.int .u8)))
    (h3 : ∀ i i' g, i < j → i' < j → (A i).map Addr.block = some g → (A i').map Addr.block = some g → i = i') (hB : B ≤ w.heap.size) (hbel : Below w.heap.size w w1)
    (hown : w1.ownsRow w.heap.size 5 1 (.slice (some ⟨g, 0, none⟩) zs.length c) zs.length (zs.map (Value.int .u8)))
    (hv' : w2.ownsRow B 108 2 v' (j + 1) (flat j (chCells D P A C) ++ [.int .i64 d, .slice (some ⟨g, 0, none⟩) zs.length c]))
    (hk : Kept (fun b => v.ownBlock = some b) w1 w2) : GC B w2.heap.size w2 v' (upd D j d) (upd P j zs) (j + 1) := by
  have hob : ∀ i, ∀ g', (A i).map Addr.block = some g' → (Value.slice (A i) (P i).length (C i)).ownBlock = some g' := fun i g' hg => by
    cases hA : A i with
    | none => rw [hA] at hg; simp at hg
    | some x => rw [hA] at hg; simpa [Value.ownBlock] using hg
  have hA : ∀ i g', i < j → (A i).map Addr.block = some g' → g' < w.heap.size := fun i g' hi hg => ((h2 i hi).lt g' (hob i g' hg)).2
  have hg0 : w.heap.size ≤ g ∧ g < w1.heap.size := hown.lt g rfl
  have k1 := ownsRow_below h1 hbel
  refine ⟨upd A j (some ⟨g, 0, none⟩), upd C j c, ?_, ?_, ?_, ?_, fun b hb => (hv'.lt b hb).2⟩
  · rw [flat_succ]
    have e : flat j (chCells (upd D j d) (upd P j zs) (upd A j (some ⟨g, 0, none⟩)) (upd C j c)) = flat j (chCells D P A C) := flat_congr (fun i hi => by
      have : i ≠ j := by omega
      simp [chCells, upd_other _ _ _ this])
    rw [e]
    simpa [chCells, upd_same] using hv'
  · intro i hi
    by_cases e : i = j
    · subst e
      simp only [upd_same]
      exact ownsRow_kept (ownsRow_mono hown hB) hk (fun b hb hS => ownsRow_apart k1 hown (by decide) hS hb)
    · simp only [upd_other _ _ _ e]
      have k2 := ownsRow_below (h2 i (by omega)) hbel
      exact ownsRow_kept k2 hk (fun b hb hS => ownsRow_apart k1 k2 (by decide) hS hb)
  · intro i i' g' hi hi' e1 e2
    by_cases e : i = j
    · by_cases e' : i' = j
      · omega
      · rw [e, upd_same] at e1
        rw [upd_other _ _ _ e'] at e2
        simp only [Option.map_some, Option.some.injEq] at e1
        have := hA i' g' (by omega) e2
        omega
    · by_cases e' : i' = j
      · rw [upd_other _ _ _ e] at e1
        rw [e', upd_same] at e2
        simp only [Option.map_some, Option.some.injEq] at e2
        have := hA i g' (by omega) e1
        omega
      · rw [upd_other _ _ _ e] at e1
        rw [upd_other _ _ _ e'] at e2
        exact h3 i i' g' (by omega) (by omega) e1 e2
  · intro i g' hi e1
    have hsz := hk.size
    by_cases e : i = j
    · rw [e, upd_same] at e1
      simp only [Option.map_some, Option.some.injEq] at e1
      omega
    · rw [upd_other _ _ _ e] at e1
      have h5 := hA i g' (by omega) e1
      have := hbel.size
      omega

def valOf (L : List Ch) (k : Int) : List Int := ((L.find? fun p => p.1 == k).map Prod.snd).getD []
theorem valOf_mem : ∀ {L : List Ch}, (L.map Prod.fst).Nodup → ∀ {p : Ch}, p ∈ L → valOf L p.1 = p.2
  | [], _, p, hp => by simp at hp
  | q :: L, hn, p, hp => by
    rw [List.map_cons, List.nodup_cons] at hn
    by_cases e : q.1 = p.1
    · rcases List.mem_cons.1 hp with rfl | hp'
      · simp [valOf]
      · exact absurd (by rw [e]; exact List.mem_map_of_mem hp') hn.1
    · rcases List.mem_cons.1 hp with rfl | hp'
      · exact absurd rfl e
      · have := valOf_mem hn.2 hp'
        unfold valOf at this ⊢
        rw [List.find?_cons_of_neg (by simpa using e)]
        exact this
def chOf (L : List Ch) (ks : List Int) : List Ch := ks.map fun k => (k, valOf L k)
theorem chOf_keys {L : List Ch} (hn : (L.map Prod.fst).Nodup) : chOf L (L.map Prod.fst) = L := by
  unfold chOf
  rw [List.map_map]
  have : ∀ p ∈ L, ((fun k => (k, valOf L k)) ∘ Prod.fst) p = id p := fun p hp => by
    simp only [Function.comp, id, valOf_mem hn hp]
  rw [List.map_congr_left this, List.map_id]
def keysUp (L : List Ch) : List Int := (L.map Prod.fst).mergeSort fun x y => decide (x ≤ y)
def up (L : List Ch) : List Ch := chOf L (keysUp L)
theorem keysUp_perm (L : List Ch) : (keysUp L).Perm (L.map Prod.fst) := List.mergeSort_perm _ _
theorem up_perm {L : List Ch} (hn : (L.map Prod.fst).Nodup) : (up L).Perm L := by
  have h := (keysUp_perm L).map fun k => (k, valOf L k)
  have e : (L.map Prod.fst).map (fun k => (k, valOf L k)) = L := chOf_keys hn
  rw [e] at h
  exact h
theorem keysUp_up {L : List Ch} (hn : (L.map Prod.fst).Nodup) : (keysUp L).Pairwise (· < ·) := by
  have h1 : (keysUp L).Pairwise (fun x y => decide (x ≤ y) = true) := List.pairwise_mergeSort (fun a b c h1 h2 => by simp only [decide_eq_true_eq] at *; omega) (fun a b => by simp only [Bool.or_eq_true, decide_eq_true_eq]; omega) _
  have h2 : (keysUp L).Nodup := (keysUp_perm L).nodup_iff.2 hn
  have h3 : (keysUp L).Pairwise (fun x y => decide (x ≤ y) = true ∧ x ≠ y) := List.Pairwise.and h1 h2
  exact h3.imp (fun {a b} ⟨h4, h5⟩ => by simp only [decide_eq_true_eq] at h4; omega)
theorem up_up {L : List Ch} (hn : (L.map Prod.fst).Nodup) : (up L).Pairwise (fun p q => p.1 < q.1) := by
  unfold up chOf
  exact List.pairwise_map.2 (keysUp_up hn)
theorem up_unique {M M' : List Ch} (h : M.Perm M') (h1 : M.Pairwise (fun p q => p.1 < q.1)) (h2 : M'.Pairwise (fun p q => p.1 < q.1)) : M = M' :=
  List.Perm.eq_of_pairwise (le := fun p q => p.1 < q.1) (fun a b _ _ h3 h4 => by omega) h1 h2 h

theorem Holds.keys {w : World} {b N : Nat} {L : List Ch} {T : Nat} (h : Holds w b N L T) : ∃ Dt : DataW Value, w.ownsMap Tryz.prog 2 RV b N Dt ∧ size Dt = L.length ∧ (∀ ss : List Int, ss.Perm (intKeys Dt) → (ss.mergeSort fun x y => decide (x ≤ y)) = keysUp L ∧ ss.length = L.length) ∧ ∀ x ∈ keysUp L, (Lit.int .i64 x).wf = true := by
  obtain ⟨Dt, A, C, h1, h2, h3, h4, h5⟩ := h
  have hp : (L.map Prod.fst).Perm (intKeys Dt) := CollectedI.perm (left := fun _ => false) ⟨h5, fun x => by rw [h2 x]; simp⟩ h1 law64 Tryz.underlying2 (fun _ => rfl)
  refine ⟨Dt, h1, h4, fun ss hs => ⟨mergeSort_of_perm_i (hs.trans hp.symm), by rw [(hs.trans hp.symm).length_eq, List.length_map]⟩, fun x hx => ?_⟩
  exact intKeys_wf h1 Tryz.underlying2 x (hp.subset ((keysUp_perm L).subset hx))
theorem Holds.nodup {w : World} {b N : Nat} {L : List Ch} {T : Nat} (h : Holds w b N L T) : (L.map Prod.fst).Nodup := by
  obtain ⟨Dt, A, C, h1, h2, h3, h4, h5⟩ := h
  exact h5

def dg (L : List Ch) (i : Nat) : Int := (L.getD i (0, [])).1
def bt (L : List Ch) (i : Nat) : List Int := (L.getD i (0, [])).2
theorem keysUp_length (L : List Ch) : (keysUp L).length = L.length := by rw [(keysUp_perm L).length_eq, List.length_map]
theorem up_dg {L : List Ch} {i : Nat} (hi : i < L.length) : dg (up L) i = (keysUp L).getD i 0 := by
  have h := keysUp_length L
  have hi2 : i < (keysUp L).length := by omega
  simp [dg, up, chOf, List.getD_eq_getElem?_getD, hi2]
theorem up_bt {L : List Ch} {i : Nat} (hi : i < L.length) : bt (up L) i = valOf L ((keysUp L).getD i 0) := by
  have h := keysUp_length L
  have hi2 : i < (keysUp L).length := by omega
  simp [bt, up, chOf, List.getD_eq_getElem?_getD, hi2]

set_option maxRecDepth 100000 in
set_option maxHeartbeats 3200000 in
theorem risingC_any (b N : Nat) (L : List Ch) (T : Nat) (w : World) (h : Holds w b N L T) (hL : L.length ≤ 1048576) (hlen : ∀ p ∈ L, 0 < p.2.length ∧ p.2.length ≤ 1048576) (hT : T ≤ w.heap.size) :
    Calls Tryz.prog 53 #[.map (some b)] w fun e w' => ∃ a c, e = .returned (.slice a L.length c) ∧ GC w.heap.size w'.heap.size w' (.slice a L.length c) (dg (up L)) (bt (up L)) L.length ∧ Below w.heap.size w w' := by
  obtain ⟨i1, ki, kz0, kz1, kz2⟩ := info_parts Tryz.infoCh
  obtain ⟨Dt, hown, hsize, hkeys, hwf⟩ := h.keys
  have hnd := h.nodup
  have hbl := h.lt
  have HH := hide h
  have HO := hide hown
  have HK := hide hkeys
  have HWf := hide hwf
  have HLen := hide hlen
  have HND := hide hnd
  have hby : i1.bytes * L.length ≤ 281474976710656 := by rw [kz2]; omega
  have hml : L.length ≤ maxLen := by unfold maxLen; omega
  have HSz := hide hsize
  clear h hown hkeys hwf hlen hnd hsize
  go_enter Tryz.func53, Tryz.ntmps53
  go_wp2_with (first | (at_len; refine wpList_len_own _ rfl _ 67 rfl 2 108 Tryz.underlying67 RV b N Dt rfl HO.out ?_; rw [HSz.out]) | (at_make; refine wpList_make_own _ rfl _ _ 25 rfl w.heap.size 108 i1 (.agg #[.int .i64 0, .slice none 0 0]) 2 Tryz.underlying25 ki kz0 kz1 .i64 .i64 _ L.length rfl rfl rfl hby hml (Nat.le_refl _) ?_; intro w1 ho1 hg1; have HO1 := hide ho1; have HG1 := hide hg1; clear ho1 hg1) | fail)
  refine (keysCall _ _).mono ?_
  rintro e w2 ⟨rfl, rfl⟩
  have B1 := hide ((Below.refl w.heap.size w).grown HG1.out (Nat.le_refl _) (fun k hk => by simp at hk))
  have O1 := hide (HO.out.kept HG1.out (by simp))
  have H1 := hide (HH.out.below B1.out)
  clear HG1
  have hs1 : w.heap.size < w1.heap.size := (HO1.out.lt w.heap.size rfl).2
  go_wp2_with fail
  refine (sortedCall b N Dt RV w1 O1.out (by rw [HSz.out]; exact hml) (by rw [HSz.out]; omega)).mono ?_
  rintro e w3 ⟨v, ss, rfl, hp, hown3, b3⟩
  obtain ⟨hks, hsl⟩ := HK.out ss hp
  obtain ⟨av, cv, rfl⟩ := ownsRow_shape hown3
  rw [hks] at hown3
  have R3 := hide (ownsRow_own hown3 (by rw [hsl, keysUp_length])).reads
  have KR : Hid (w3.ownsRow w.heap.size 2 1 (.slice av L.length cv) L.length ((keysUp L).map (Value.int .i64))) := by rw [hsl] at hown3; exact ownsRow_mono hown3 (by simp; omega)
  have B31 := hide (below_next (below_alloc w1 (.cells #[.map (some b)] 67)) b3)
  have G3 := hide (ownsRow_below HO1.out B31.out)
  have H3 := hide (H1.out.below B31.out)
  have B3 := hide (below_next B1.out B31.out)
  rw [hsl]
  clear hown3 b3 hp hks HO1 H1 B1 B31 O1
  have hs3 : w.heap.size < w3.heap.size := (G3.out.lt w.heap.size rfl).2
  have K3 : Hid (w3.ownsRow w.heap.size 2 1 (.slice av L.length cv) L.length ((keysUp L).map (Value.int .i64))) := KR.out
  go_wp2
  go_loopw [3, 5, 13] (fun v _ i wr => ∃ j : Nat, j ≤ L.length ∧ i = .int .i64 j ∧ GC w.heap.size wr.heap.size wr v (dg (up L)) (bt (up L)) j ∧ wr.ownsRow w.heap.size 2 1 (.slice av L.length cv) L.length ((keysUp L).map (Value.int .i64)) ∧ Holds wr b N L T ∧ Below w.heap.size w wr) (fun _ _ i _ => L.length - (intOf i).toNat)
  case atStart => exact ⟨0, Nat.zero_le _, rfl, ⟨fun _ => none, fun _ => 0, G3.out, fun i hi => absurd hi (by omega), fun i i' g hi => absurd hi (by omega), fun i g hi => absurd hi (by omega), fun x hx => (G3.out.lt x hx).2⟩, K3.out, H3.out, B3.out⟩
  case round =>
    obtain ⟨j, hj, rfl, hG, hKR, hH, hbel⟩ := hrel
    obtain ⟨lv, lc, rfl⟩ := hG.shape
    have HW := hide hbel
    have hsz := hbel.size
    clear R3 K3 G3 H3 B3
    by_cases hlt : j < L.length
    · obtain ⟨b2, o2, rfl, hb2, hc2⟩ := (ownsRow_own hKR (keysUp_length L).symm).reads (by intro e; have := keysUp_length L; rw [e] at this; simp at this; omega)
      have hc1 := hc2 j (by rw [keysUp_length]; exact hlt)
      have hmem : (keysUp L).getD j 0 ∈ keysUp L := by
        have : j < (keysUp L).length := by rw [keysUp_length]; exact hlt
        rw [List.getD_eq_getElem?_getD, List.getElem?_eq_getElem this]
        exact List.getElem_mem this
      have hwz := HWf.out _ hmem
      have hd := up_dg hlt
      have hb := up_bt hlt
      obtain ⟨p, hp, hpk⟩ := List.mem_map.1 ((keysUp_perm L).subset hmem)
      have hpv := valOf_mem HND.out hp
      have hpl := HLen.out p hp
      have hpair : ((keysUp L).getD j 0, valOf L ((keysUp L).getD j 0)) ∈ L := by rw [← hpk, hpv]; exact hp
      rw [← hpv, hpk] at hpl
      generalize (keysUp L).getD j 0 = z at *
      generalize hxs : valOf L z = xs at *
      clear hxs hpv
      obtain ⟨a3, c3, hrun, hr3, -⟩ := hH.yes hpair hwz 67 Tryz.underlying67
      have HL := hide (hrun false)
      obtain ⟨b3, o3, rfl, hb3, hc3⟩ := hr3 (by intro e; rw [e] at hpl; simp at hpl)
      obtain ⟨A, C, h1, h2, h3, h4, h5⟩ := hG
      have HDB := hide (And.intro hd hb)
      have HC3 := hide hc3
      have HA1 := hide h1
      have HA2 := hide h2
      have HA3 := hide h3
      have HKR := hide hKR
      have HHw := hide hH
      have hm1 : j + 1 ≤ maxLen := by unfold maxLen; omega
      have hm2 : (j + 1) * 32 ≤ 140737488355328 := by omega
      have hfd : ∀ u : World, (Instr.field 108 (.agg #[.int .i64 z, .slice (some ⟨b3, o3, none⟩) xs.length c3]) 1).run Tryz.prog u = .ok (.slice (some ⟨b3, o3, none⟩) xs.length c3) u := fun _ => by kernel_rfl
      clear hc2 hmem hpk hp hpair hrun hr3 hc3 h1 h2 h3 h4 h5 hKR hH hbel hd hb
      go_wp2_with (first | (at_lookup; refine wpList_look rfl _ _ 67 false rfl _ _ _ rfl rfl HL.out ?_; simp only [chv, Bool.false_eq_true, if_false]) | (go_at_call 94; refine (clone_any b3 o3 c3 xs wr HC3.out hb3 hpl.1 hpl.2 _ rfl).mono ?_; rintro e w4 ⟨g, cc, rfl, hown4, hg4, hgl4, hbel4⟩; have k1 := hide (ownsRow_below HA1.out hbel4); have O4 := hide hown4; have B4 := hide hbel4; have hsz4 : w.heap.size ≤ w4.heap.size := Nat.le_trans hsz hbel4.size; clear hown4 hbel4) | (at_builtin; refine wpList_append_one rfl (.tmp 17) (.tmp 25) 25 rfl w.heap.size 108 i1 (.agg #[.int .i64 0, .slice none 0 0]) 2 32 Tryz.underlying25 ki kz0 kz1 kz2 rfl (by decide) _ _ _ rfl k1.out rfl rfl (by intro u hu; simp at hu; rcases hu with rfl | rfl <;> rfl) hm1 hm2 hsz4 ?_; intro v' w5 hown5 hkept; have O5 := hide hown5; have K5 := hide hkept; clear hown5 hkept) | fail)
      go_roundw
      case rel =>
        have hS : ∀ x, (Value.slice lv j lc).ownBlock = some x → w.heap.size ≤ x := fun x hx => (k1.out.lt x hx).1
        refine ⟨j + 1, by omega, by go_num, ?_, ?_, ?_, ?_⟩
        · refine (GC.push HA1.out HA2.out HA3.out hsz B4.out O4.out O5.out K5.out).congr (fun i hi => ?_) (fun i hi => ?_)
          · by_cases e : i = j
            · subst e; rw [upd_same]; exact HDB.out.1
            · rw [upd_other _ _ _ e]
          · by_cases e : i = j
            · subst e; rw [upd_same]; exact HDB.out.2
            · rw [upd_other _ _ _ e]
        · have k2 := ownsRow_below HKR.out B4.out
          exact ownsRow_kept k2 K5.out (fun x hx hS' => ownsRow_apart k1.out k2 (by decide) hS' hx)
        · exact (HHw.out.below B4.out).kept K5.out (fun hx => by have := hS _ hx; omega) (fun x hx => by have := hS x hx; omega)
        · exact (below_next' HW.out B4.out).trans (K5.out.below hsz4 (fun k hk hx => by have := hS k hx; omega))
      case measure => simp [intOf]; omega
    · have hje : j = L.length := by omega
      subst hje
      have HG := hide hG
      clear hG hKR hH hbel
      go_wp2
      go_ret
      exact ⟨_, _, rfl, HG.out, HW.out⟩

end Go.Proofs.YtejipahfodhmjaaGreat

namespace Go.Proofs.YtejipahfodhmjaaGreat
open Go.RowKit Go.Maps
set_option linter.unusedVariables false
attribute [local go_sem ↓] Go.wp_at_zero Go.wp_at_succ

theorem step_append_own {P : Program} {w : World} {ops : Array Oper} {o : Oper} {a : Act} {K : Act → World → Prop} {Q : Exit → Act → World → Prop} {E : Prop} (hgd : o.guard = none) (s x : Operand) (t : TypeId)
    (ho : o.op = .call { callee := .builtin .append, args := #[s, x], argTypes := #[t, t] })
    (base : Nat) (e : TypeId) (i : TypeInfo) (z : Value) (size bytes : Nat) (ht : P.underlying t = some (.slice e)) (hi : P.info? e = some i) (hz : i.zero = some z)
    (hsize : i.size = size) (hby : i.bytes = bytes) (hzs : z.cells.size = size) (hsz : 0 < size)
    (v : Value) (n : Nat) (xs : List Value) (hs : a.eval s = v) (hown : w.ownsRow base e size v n xs)
    (ad : Addr) (m c : Nat) (news : List Value) (hx : a.eval x = .slice (some ad) m c) (hl : news.length = m * size) (hnews : ∀ j u, news[j]? = some u → w.cell? (ad.add j) = some u) (h1 : ∀ u ∈ news, u.oneCell' = true)
    (N : Nat) (hN : n + m = N) (h63 : n + m ≤ maxLen) (hbytes : (n + m) * bytes ≤ 140737488355328) (hbase : base ≤ w.heap.size)
    (h : ∀ av cv w', w'.ownsRow base e size (.slice av N cv) N (xs ++ news) → Kept (fun b => v.ownBlock = some b) w w' → K (a.put o.dst (.slice av N cv)) w') :
    if Region.wanted o (yielded ops a.tmps) = true then Oper.wp P o a w K Q else E := by
  have hw : Region.wanted o (yielded ops a.tmps) = true := by simp [Region.wanted, hgd]
  rw [if_pos hw]
  refine wp_append_own w s x t ho base e i z size bytes ht hi hz hsize hby hzs hsz v n xs hs hown ad m c news hx hl hnews h1 h63 hbytes hbase fun v' w' h2 h3 _ => ?_
  rw [hN] at h2
  obtain ⟨av, cv, rfl⟩ := ownsRow_shape h2
  exact h av cv w' h2 ⟨h3.os, h3.tape, h3.output, h3.size, fun q hq hn => h3.block q hq (fun e => hn e.symm)⟩

theorem news_two {w : World} {H : Nat} {u v : Value} {t : TypeId} (hH : w.heap.size = H) : ∀ j x, [u, v][j]? = some x → (w.alloc (.cells #[u, v] t)).cell? ((⟨H, 0, none⟩ : Addr).add j) = some x := by
  subst hH
  intro j x hj
  have hadd : (⟨w.heap.size, 0, none⟩ : Addr).add j = ⟨w.heap.size, j, none⟩ := by unfold Addr.add; split <;> simp_all
  rw [hadd, cell_of_row _ w.heap.size j #[u, v] t (0, 0) (heap_alloc_new w _)]
  simpa using hj

theorem ownsRow_addr {w : World} {B : Nat} {e : TypeId} {size n : Nat} {a : Option Addr} {c : Nat} {xs : List Value} (h : w.ownsRow B e size (.slice a n c) n xs) (hn : 0 < n ∨ ∃ g, (Value.slice a n c).ownBlock = some g) : ∃ g, a = some ⟨g, 0, none⟩ ∧ n ≤ c := by
  rcases h.2 with ⟨h', h0⟩ | ⟨g, cap, cur, h', _, _, hnc, _⟩
  · simp only [Value.slice.injEq] at h'
    rcases hn with hn | ⟨g, hg⟩
    · omega
    · rw [h'.1] at hg; simp [Value.ownBlock] at hg
  · simp only [Value.slice.injEq, true_and] at h'
    exact ⟨g, h'.1, by rw [h'.2]; exact hnc⟩
theorem GC.addr {B T : Nat} {w : World} {a : Option Addr} {c n : Nat} {D : Nat → Int} {P : Nat → List Int} (h : GC B T w (.slice a n c) D P n) (hn : 0 < n ∨ ∃ g, (Value.slice a n c).ownBlock = some g) : ∃ g, a = some ⟨g, 0, none⟩ ∧ n ≤ c := by
  obtain ⟨A, C, h1, _⟩ := h
  exact ownsRow_addr h1 hn

set_option maxRecDepth 100000 in
set_option maxHeartbeats 3200000 in
theorem l2Copy_at (a : Option Addr) (c n : Nat) (D : Nat → Int) (P : Nat → List Int) (w : World) (h : RdC w a D P n) (hn : n ≤ 1048576) (hP : ∀ i, i < n → 0 < (P i).length ∧ (P i).length ≤ 1048576) :
    Calls Tryz.prog 120 #[.slice a n c] w fun e w' => ∃ g cv, e = .returned (.slice (some ⟨g, 0, none⟩) n cv) ∧ n ≤ cv ∧ GC w.heap.size w'.heap.size w' (.slice (some ⟨g, 0, none⟩) n cv) D P n ∧ Below w.heap.size w w' := by
  obtain ⟨i1, ki, kz0, kz1, kz2⟩ := info_parts Tryz.infoCh
  obtain ⟨i0, hi0, hz0, hz1, hz2⟩ := info_parts Tryz.infoU8
  have HA := hide h
  have HP := hide hP
  clear h hP
  go_enter Tryz.func120, Tryz.ntmps120
  go_wp2
  go_loopw [3, 4] (fun v i wr => ∃ j : Nat, j ≤ n ∧ i = .int .i64 j ∧ GC w.heap.size wr.heap.size wr v D P j ∧ (∃ g, v.ownBlock = some g) ∧ Below w.heap.size w wr) (fun _ i _ => n - (intOf i).toNat)
  case atStart => exact ⟨0, Nat.zero_le _, rfl, ⟨fun _ => none, fun _ => 0, World.ownsRow_made w #[] 0 (Nat.le_refl _) (Nat.zero_le _) rfl, fun i hi => absurd hi (by omega), fun i i' g hi => absurd hi (by omega), fun i g hi => absurd hi (by omega), fun x hx => by simp [Value.ownBlock] at hx; subst hx; simp⟩, ⟨_, rfl⟩, below_alloc _ _⟩
  case round =>
    obtain ⟨j, hj, rfl, hG, hob, hbel⟩ := hrel
    obtain ⟨lv, lc, rfl⟩ := hG.shape
    have HW := hide hbel
    have HOb := hide hob
    have hsz := hbel.size
    clear hob
    by_cases hlt : j < n
    · obtain ⟨b1, o1, A1, C1, rfl, hb1, hc1⟩ := HA.out (by omega)
      obtain ⟨c1, e1, r1⟩ := hc1 j hlt
      have c1 := (hbel.cell (p := ⟨b1, o1 + j * 2, none⟩) hb1).trans c1
      have e1 := (hbel.cell (p := ⟨b1, o1 + j * 2 + 1, none⟩) hb1).trans e1
      have r1 := r1.below hbel
      obtain ⟨hp0, hp1⟩ := HP.out j hlt
      have hj0 : (0 : Int) ≤ (j : Int) := by omega
      have hj1 : (j : Int) < (n : Int) := by omega
      obtain ⟨A, C, h1, h2, h3, h4, h5⟩ := hG
      have HA1 := hide h1
      have HA2 := hide h2
      have HA3 := hide h3
      generalize A1 j = a1 at e1 r1
      generalize C1 j = d1 at e1
      generalize hxs : P j = xs at *
      generalize hdd : D j = dd at *
      have HX := hide (And.intro hdd hxs)
      clear hxs hdd
      obtain ⟨b2, o2, rfl, hb2, hc2⟩ := r1 (by intro e; subst e; simp at hp0)
      have hb1' : b1 < wr.heap.size := by omega
      have OWN0 : Hid ((wr.alloc (.cells #[] 5)).drew.ownsRow wr.heap.size 5 1 (.slice (some ⟨wr.heap.size, 0, none⟩) 0 0) 0 []) := World.ownsRow_made wr #[] 0 (Nat.le_refl _) (Nat.zero_le _) rfl
      have NEWS0 : Hid (∀ j u, (xs.map (Value.int .u8))[j]? = some u → (wr.alloc (.cells #[] 5)).drew.cell? ((⟨b2, o2, none⟩ : Addr).add j) = some u) := reads_news (w := (wr.alloc (.cells #[] 5)).drew) (fun i hi => ((below_alloc wr (.cells #[] 5)).cell (p := ⟨b2, o2 + i, none⟩) hb2).trans (hc2 i hi))
      have KC : Hid (∀ (W w2 : World) (S : Nat → Prop), W.cell? ⟨b1, o1 + j * 2, none⟩ = some (.int .i64 dd) ∧ W.cell? ⟨b1, o1 + j * 2 + 1, none⟩ = some (.slice (some ⟨b2, o2, none⟩) xs.length d1) → Kept S W w2 → ¬ S b1 → w2.cell? ⟨b1, o1 + j * 2, none⟩ = some (.int .i64 dd) ∧ w2.cell? ⟨b1, o1 + j * 2 + 1, none⟩ = some (.slice (some ⟨b2, o2, none⟩) xs.length d1)) := by
        intro W w2 S hs hk hn
        have hlt := World.block_lt_of_cell? W ⟨b1, o1 + j * 2, none⟩ hs.1
        exact ⟨(hk.cell (p := ⟨b1, o1 + j * 2, none⟩) hlt hn).trans hs.1, (hk.cell (p := ⟨b1, o1 + j * 2 + 1, none⟩) hlt hn).trans hs.2⟩
      have hm0 : 0 + xs.length ≤ maxLen := by unfold maxLen; omega
      have hm0' : (0 + xs.length) * 1 ≤ 140737488355328 := by omega
      have hm1 : j + 1 ≤ maxLen := by unfold maxLen; omega
      have hm2 : (j + 1) * 32 ≤ 140737488355328 := by omega
      have hfar : ¬ (Value.slice (some ⟨wr.heap.size, 0, none⟩) 0 0).ownBlock = some b1 := by simp [Value.ownBlock]; omega
      have hfar2 : ¬ (Value.slice lv j lc).ownBlock = some b1 := fun hx => by have := (HA1.out.lt b1 hx).1; omega
      have hne1 : wr.heap.size ≠ b1 := by omega
      clear h1 h2 h3 h4 h5 hc1 hc2 hbel
      go_wp2_with fail
      go_region_held3 (fun w' => w'.cell? ⟨b1, o1 + j * 2, none⟩ = some (.int .i64 dd) ∧ w'.cell? ⟨b1, o1 + j * 2 + 1, none⟩ = some (.slice (some ⟨b2, o2, none⟩) xs.length d1))
        (first
          | exact KC.out _ _ _ (by assumption) (by assumption) hfar
          | exact KC.out _ _ _ (by assumption) (by assumption) hfar2
          | go_keep)
        ((first
          | (refine step_append_own (by rfl) (.tmp 18) (.tmp 23) 22 (by rfl) wr.heap.size 5 i0 (.int .u8 0) 1 1 Tryz.underlying22 hi0 hz0 hz1 hz2 rfl (by decide) (.slice (some ⟨wr.heap.size, 0, none⟩) 0 0) 0 [] (by rfl) OWN0.out ⟨b2, o2, none⟩ xs.length d1 (xs.map (Value.int .u8)) (by rfl) (by simp) NEWS0.out (ints_one _ _) xs.length (by simp) hm0 hm0' (by simp) ?_; intro av cv w1 hown1 hk1; obtain ⟨g, cap, hv, hg0, hgl, _⟩ := own_of_ownsRow (zs := xs) hown1 rfl hp0; simp only [Value.slice.injEq, true_and] at hv; obtain ⟨rfl, rfl⟩ := hv; have O1 := hide hown1; have BB1 := hide ((below_alloc wr (.cells #[] 5)).drew.trans (hk1.below (by simp) (fun k hk hS => by simp [Value.ownBlock] at hS; omega))); have hw1 : w1.heap.size ≠ b1 := (by have := BB1.out.size; omega); clear hown1)
          | (refine step_append_own (by rfl) (.tmp 12) (.tmp 26) 25 (by rfl) w.heap.size 108 i1 (.agg #[.int .i64 0, .slice none 0 0]) 2 32 Tryz.underlying25 ki kz0 kz1 kz2 rfl (by decide) (.slice lv j lc) j (flat j (chCells D P A C)) (by rfl) ((ownsRow_below HA1.out BB1.out).alloc _) ⟨w1.heap.size, 0, none⟩ 1 1 [.int .i64 dd, .slice (some ⟨g, 0, none⟩) xs.length cv] (by rfl) (by rfl) (news_two rfl) (by intro u hu; simp at hu; rcases hu with rfl | rfl <;> rfl) (j + 1) rfl hm1 hm2 (by have := BB1.out.size; simp; omega) ?_; intro av2 cv2 w2 hown2 hk2; have O2 := hide hown2; have K2 := hide (((Kept.refl (fun b => (Value.slice lv j lc).ownBlock = some b) w1).alloc _).trans hk2); clear hown2)))
      go_wp2
      go_roundw
      case rel =>
        refine ⟨j + 1, by omega, by go_num, ?_, ?_, ?_⟩
        · refine (GC.push HA1.out HA2.out HA3.out hsz BB1.out O1.out O2.out K2.out).congr (fun i hi => ?_) (fun i hi => ?_)
          · by_cases e : i = j
            · subst e; rw [upd_same]; exact HX.out.1
            · rw [upd_other _ _ _ e]
          · by_cases e : i = j
            · subst e; rw [upd_same]; exact HX.out.2
            · rw [upd_other _ _ _ e]
        · obtain ⟨g5, h5, _⟩ := ownsRow_addr O2.out (.inl (by omega))
          exact ⟨g5, by rw [h5]; rfl⟩
        · exact (below_next' HW.out BB1.out).trans (K2.out.below (Nat.le_trans hsz BB1.out.size) (fun k hk hx => by have := (HA1.out.lt k hx).1; omega))
      case measure => simp [intOf]; omega
    · have hje : j = n := by omega
      subst hje
      obtain ⟨g5, h5, h6⟩ := hG.addr (.inr HOb.out)
      subst h5
      have HG := hide hG
      clear hG hbel
      go_wp2
      go_ret
      exact ⟨_, _, rfl, h6, HG.out, HW.out⟩
theorem l2Copy_any (a : Option Addr) (c n : Nat) (D : Nat → Int) (P : Nat → List Int) (w : World) (h : RdC w a D P n) (hn : n ≤ 1048576) (hP : ∀ i, i < n → 0 < (P i).length ∧ (P i).length ≤ 1048576) :
    Calls Tryz.prog 120 #[.slice a n c] w fun e w' => ∃ av cv, e = .returned (.slice av n cv) ∧ GC w.heap.size w'.heap.size w' (.slice av n cv) D P n ∧ Below w.heap.size w w' :=
  (l2Copy_at a c n D P w h hn hP).mono fun e w' ⟨g, cv, he, _, hG, hb⟩ => ⟨_, cv, he, hG, hb⟩

end Go.Proofs.YtejipahfodhmjaaGreat

