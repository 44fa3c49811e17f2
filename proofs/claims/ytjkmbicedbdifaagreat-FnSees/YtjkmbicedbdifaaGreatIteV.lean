/-
  The program's order of items: slices.SortFunc at a slice of items.
-/
import Derived.Test.YtjkmbicedbdifaaGreatLayT
import Derived.Test.YtjkmbicedbdifaaGreatIteR
namespace Go.Proofs.YtjkmbicedbdifaaGreat
open Go.RowKit Go.Sort Go.Shelf
set_option linter.unusedVariables false

set_option maxRecDepth 100000 in
set_option maxHeartbeats 1600000 in
theorem sortSlice_any (B g n c : Nat) (rs ss : List Rw) (w : World) (h : w.ownsRow B 64 4 (.slice (some ⟨g, 0, none⟩) n c) n (rowI rs)) (hn : n = rs.length) (h12 : n ≤ 1048577) (hp : ss.Perm rs) (hs : ss.Pairwise (fun x y => Op.bytesLess x.e.path y.e.path = true)) :
    Calls Tryz.prog 99 #[.slice (some ⟨g, 0, none⟩) n c, .func (.func 65) #[] #[]] w fun e w' => e = .returned (.tuple #[]) ∧ (∀ i q r, ss[i]? = some r → q < 4 → w'.cell? ⟨g, i * 4 + q, none⟩ = (cellsI r)[q]?) ∧ Kept (fun b => b = g) w w' := by
  subst hn
  haveI : Inhabited Rw := ⟨⟨⟨[], 0, 0, []⟩, none, 0⟩⟩
  have hg := (h.lt g rfl).2
  have hH : HoldsK cellsI 4 w g 0 rs.toArray := by
    intro j hj
    rw [size_flatK] at hj
    have hj4 : j < rs.length * 4 := by simpa using hj
    have h1 : j / 4 < rs.length := by omega
    obtain ⟨r, hr⟩ : ∃ r, rs[j / 4]? = some r := ⟨_, List.getElem?_eq_getElem h1⟩
    have hc := (h.cellAt (j / 4 * 4 + j % 4) (by omega)).trans (rowI_get rs (j / 4) (j % 4) _ hr (by omega))
    rw [show j / 4 * 4 + j % 4 = j by omega] at hc
    refine ⟨?_, h.frozenAt _⟩
    rw [Nat.zero_add, hc, get_flatK _ _ _ _ hj]
    have e1 : rs.toArray[j / 4]! = r := by
      have := List.getElem?_eq_some_iff.1 hr
      simp [h1, this.2]
    rw [e1]
    have hl : j % 4 < (cellsI r).length := by show j % 4 < 4; omega
    simp only [id]
    rw [List.getElem?_eq_getElem hl, getElem!_pos (cellsI r) (j % 4) hl]
  have eg : ∀ args w, (callFunc 65 args).run Tryz.prog w = .ok (.enter 65 args) w := enters_of Tryz.func65 (by kernel_rfl) rfl
  have hsz : rs.toArray.size < 4611686018427387904 := by have h2 := h12; simpa using (by omega : rs.length < 4611686018427387904)
  have hlim : Lib.bitLen rs.length < 4611686018427387904 := Nat.lt_of_le_of_lt (Lib.bitLen_le rs.length 62 (by omega) (by omega)) (by omega)
  have hpd := AnyQ.pdqsortCmpFunc_all Tryz.pdqT 4 Tryz.isAgg64 Tryz.sizeOf64 cellsI (fun x y => cmpB x.e.path y.e.path) 65 #[] swo_path g 0 c rs.toArray w eg (fun _ _ _ _ x y => sortLit_any x y _) ⟨fun _ => rfl, fun x v hv => rowI_one [x] v (by simpa [rowI] using hv), hH, hg⟩ (rs.toArray.size + 1) 0 rs.toArray.size (Lib.bitLen rs.length) rs.toArray w (by omega) rfl (SWK.start hH) (Nat.zero_le _) (Nat.le_refl _) hsz hlim (Or.inl rfl)
  have hps := pdq_sorts (ltOf fun x y : Rw => cmpB x.e.path y.e.path) swo_path rs.toArray 0 rs.toArray.size (Lib.bitLen rs.length) true true (Nat.zero_le _) (Nat.le_refl _) (Or.inl rfl)
  have hcon : Calls Tryz.prog 99 #[.slice (some ⟨g, 0, none⟩) rs.length c, .func (.func 65) #[] #[]] w fun e w' => e = .returned (.tuple #[]) ∧ ∃ d' n os, PermIn 0 rs.toArray.size rs.toArray d' ∧ SortedIn (ltOf fun x y : Rw => cmpB x.e.path y.e.path) 0 rs.toArray.size d' ∧ w' = sortWorldK cellsI 4 w g 0 n d' os := by
    have HP : Hid (Calls Tryz.prog 132 #[.slice (some ⟨g, 0, none⟩) rs.length c, .int .i64 0, .int .i64 rs.length, .int .i64 (Lib.bitLen rs.length : Nat), .func (.func 65) #[] #[]] w fun e w' => e = .returned (.tuple #[]) ∧ ∃ d' n os, PermIn 0 rs.toArray.size rs.toArray d' ∧ SortedIn (ltOf fun x y : Rw => cmpB x.e.path y.e.path) 0 rs.toArray.size d' ∧ w' = sortWorldK cellsI 4 w g 0 n d' os) := hide (by
      have h2 := hpd
      simp only [List.size_toArray] at h2
      refine (show Calls Tryz.prog 132 _ w _ from h2).mono ?_
      rintro e w' ⟨he, n, os, hw⟩
      exact ⟨he, _, n, os, by simpa using hps.1, by simpa using hps.2, hw⟩)
    have HL : Hid (Calls Tryz.prog 133 #[.int .u64 (rs.length : Int)] w fun e w' => e = .returned (.int .i64 (Lib.bitLen rs.length : Nat)) ∧ w' = w) := hide (by
      have h3 := Any.bits_Len Tryz.lenT (rs.length : Int) w (by omega) (by omega)
      rw [Int.toNat_natCast] at h3
      exact h3)
    have wr : IntKind.u64.wrap (rs.length : Int) = rs.length := by simp [IntKind.wrap, IntKind.bits, IntKind.signed]; omega
    clear hpd hps hH hlim hsz
    go_enter Tryz.func99, Tryz.ntmps99
    go_wp2_with fail
    refine HL.out.mono ?_
    rintro e w ⟨rfl, rfl⟩
    go_wp2_with fail
    refine HP.out.mono ?_
    rintro e w' ⟨rfl, hrest⟩
    have HRS := hide hrest
    clear hrest
    go_wp2_with fail
    first | go_end0 | skip
    exact ⟨rfl, HRS.out⟩
  refine (show Calls Tryz.prog 99 #[.slice (some ⟨g, 0, none⟩) rs.length c, .func (.func 65) #[] #[]] w _ from hcon).mono ?_
  rintro e w' ⟨he, d', m, os, hperm, hsort, rfl⟩
  obtain ⟨hsz, _, hpm⟩ := hperm
  have hsz' : d'.size = rs.length := by simpa using hsz
  have hpm' : d'.toList.Perm rs := by
    have e1 : (d'.extract 0 rs.toArray.size).toList = d'.toList := by simp [← hsz']
    have e2 : (rs.toArray.extract 0 rs.toArray.size).toList = rs := by simp
    rw [e1, e2] at hpm
    exact hpm
  have hnd : ss.Pairwise (fun x y => x.e.path ≠ y.e.path) := hs.imp (fun h => bl_ne h)
  have hnd' : d'.toList.Pairwise (fun x y => x.e.path ≠ y.e.path) := (hpm'.trans hp.symm).symm.pairwise hnd (fun h => h.symm)
  have hd : d'.toList = ss := by
    refine rise_unique (hpm'.trans hp.symm) ?_ hs
    rw [List.pairwise_iff_getElem]
    intro i j hi hj hij
    have hne := List.pairwise_iff_getElem.1 hnd' i j hi hj hij
    have hlt := hsort i j (Nat.zero_le _) hij (by simpa [← hsz'] using hj)
    have e1 : ltOf (fun x y : Rw => cmpB x.e.path y.e.path) d'[j]! d'[i]! = Op.bytesLess d'[j]!.e.path d'[i]!.e.path := cmpB_lt _ _
    rw [e1] at hlt
    have hi' : i < d'.size := by simpa using hi
    have hj' : j < d'.size := by simpa using hj
    rw [getElem!_pos d' i hi', getElem!_pos d' j hj'] at hlt
    simp only [Array.getElem_toList] at hne ⊢
    exact bl_total _ _ hlt (fun x => hne x.symm)
  have hK := holdsK_sortWorldK_c cellsI 4 w g 0 rs.toArray d' m os hH hg (by simpa using hsz')
  refine ⟨he, fun i q r hi hq => ?_, ?_⟩
  · rw [← hd] at hi
    have hi' : i < d'.size := by have := (List.getElem?_eq_some_iff.1 hi).1; simpa using this
    have := (hK.cell (i := i) (c := q) hi' hq).1
    rw [Nat.zero_add] at this
    rw [this]
    have e1 : d'[i]! = r := by
      rw [getElem!_pos d' i hi']
      have := (List.getElem?_eq_some_iff.1 hi).2
      simpa using this
    rw [e1]
    have hl : q < (cellsI r).length := hq
    rw [List.getElem?_eq_getElem hl, getElem!_pos (cellsI r) q hl]
  · refine ⟨rfl, rfl, rfl, ?_, fun k hk hn => ?_⟩
    · show w.heap.size ≤ ((w.heap.modify g _) ++ os).size
      simp
    · show ((w.heap.modify g _) ++ os)[k]? = w.heap[k]?
      rw [Array.getElem?_append_left (by simpa using hk), Array.getElem?_modify]
      have : ¬ g = k := fun e => hn e.symm
      simp [this]

end Go.Proofs.YtjkmbicedbdifaaGreat
