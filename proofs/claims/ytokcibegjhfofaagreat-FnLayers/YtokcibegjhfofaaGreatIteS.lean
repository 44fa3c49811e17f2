/-
  The program's order of items: slices.SortFunc by cmp.Compare of their paths.
-/
import Derived.Test.YtokcibegjhfofaaGreatLayS
import Derived.Test.YtokcibegjhfofaaGreatLayR
namespace Go.Proofs.YtokcibegjhfofaaGreat
open Go.RowKit Go.Sort
set_option linter.unusedVariables false

/-- What cmp.Compare answers to two texts. -/
def cmpB (a b : Bs) : Int := if Op.bytesLess a b then -1 else if Op.bytesLess b a then 1 else 0
theorem cmpB_lt (a b : Bs) : decide (cmpB a b < 0) = Op.bytesLess a b := by
  unfold cmpB
  cases h : Op.bytesLess a b
  · cases h2 : Op.bytesLess b a <;> rfl
  · rfl

theorem isNaN_any (s : ByteArray) (w : World) : Calls Tryz.prog 52 #[.string s] w fun e w' => e = .returned (.bool false) ∧ w' = w := by
  go_enter Tryz.func52, Tryz.ntmps52
  go_wp2
  go_ret
  exact ⟨by simp, rfl⟩
set_option maxHeartbeats 800000 in
theorem compare_any (p q : Bs) (w : World) : Calls Tryz.prog 24 #[.string (str p), .string (str q)] w fun e w' => e = .returned (.int .i64 (cmpB p q)) ∧ w' = w := by
  obtain ⟨F, hF⟩ : ∃ F : Int, F = cmpB p q := ⟨_, rfl⟩
  rw [← hF]
  cases h1 : Op.bytesLess (str p).toList (str q).toList
  · by_cases hpq : p = q
    · have hs1 := str_yes hpq
      have HE := hide (show F = 0 from by rw [hF, cmpB, hpq, bl_irrefl]; rfl)
      clear hF hpq
      go_enter Tryz.func24, Tryz.ntmps24
      go_wp2_with (go_at_call 52; refine (isNaN_any _ _).mono ?_; rintro e w' ⟨rfl, rfl⟩)
      go_ret
      exact ⟨ret_int HE.out.symm, rfl⟩
    · have hs1 := str_no hpq
      have HE := hide (show F = 1 from by
        rw [str_toList, str_toList] at h1
        rw [hF, cmpB, h1, bl_total _ _ h1 hpq]; rfl)
      clear hF hpq
      go_enter Tryz.func24, Tryz.ntmps24
      go_wp2_with (go_at_call 52; refine (isNaN_any _ _).mono ?_; rintro e w' ⟨rfl, rfl⟩)
      go_ret
      exact ⟨ret_int HE.out.symm, rfl⟩
  · have HE := hide (show F = -1 from by rw [hF, cmpB]; rw [str_toList, str_toList] at h1; rw [h1]; rfl)
    clear hF
    go_enter Tryz.func24, Tryz.ntmps24
    go_wp2_with (go_at_call 52; refine (isNaN_any _ _).mono ?_; rintro e w' ⟨rfl, rfl⟩)
    go_ret
    exact ⟨ret_int HE.out.symm, rfl⟩
set_option maxHeartbeats 800000 in
theorem sortLit_any (x y : Rw) (W : World) : Calls Tryz.prog 23 #[.agg (cellsI x).toArray, .agg (cellsI y).toArray] W fun e w' => e = .returned (.int .i64 (cmpB x.e.path y.e.path)) ∧ ∃ q os', w' = grow (W.drewN q) os' := by
  have hcon := fun W' => compare_any x.e.path y.e.path W'
  generalize cmpB x.e.path y.e.path = r at hcon ⊢
  show Calls Tryz.prog 23 #[.agg #[.int .i64 x.e.size, .slice x.a x.e.chunks.length x.c, .string (str x.e.path), .int .i64 x.e.kind], .agg #[.int .i64 y.e.size, .slice y.a y.e.chunks.length y.c, .string (str y.e.path), .int .i64 y.e.kind]] W _
  go_enter Tryz.func23, Tryz.ntmps23
  go_wp2_with (go_at_call 24; refine (hcon _).mono ?_; rintro e w' ⟨rfl, rfl⟩)
  go_ret
  exact ⟨rfl, 0, _, by rw [alloc_eq_grow, alloc_eq_grow, grow_grow]; rfl⟩

/-- Two lists that rise and hold the same are one. -/
theorem rise_unique : ∀ {l1 l2 : List Rw}, l1.Perm l2 → l1.Pairwise (fun x y => Op.bytesLess x.e.path y.e.path = true) → l2.Pairwise (fun x y => Op.bytesLess x.e.path y.e.path = true) → l1 = l2
  | [], l2, hp, _, _ => hp.symm.eq_nil.symm
  | a :: l1, [], hp, _, _ => by have := hp.length_eq; simp at this
  | a :: l1, b :: l2, hp, h1, h2 => by
    have p1 := List.pairwise_cons.1 h1
    have p2 := List.pairwise_cons.1 h2
    have hab : a = b := by
      have ha : a ∈ b :: l2 := hp.subset List.mem_cons_self
      have hb : b ∈ a :: l1 := hp.symm.subset List.mem_cons_self
      rcases List.mem_cons.1 ha with h | ha
      · exact h
      · rcases List.mem_cons.1 hb with h | hb
        · exact h.symm
        · have q1 := p2.1 a ha
          have q2 := p1.1 b hb
          rw [bl_asymm q1] at q2
          cases q2
    subst hab
    rw [rise_unique (List.Perm.cons_inv hp) p1.2 p2.2]

theorem swo_path : SWO (ltOf fun x y : Rw => cmpB x.e.path y.e.path) := by
  have e : ∀ x y : Rw, ltOf (fun x y : Rw => cmpB x.e.path y.e.path) x y = Op.bytesLess x.e.path y.e.path := fun x y => cmpB_lt _ _
  refine ⟨fun x => by rw [e, bl_irrefl], fun x y z => by rw [e, e, e]; exact bl_trans _ _ _, fun x y z => ?_⟩
  rw [e, e, e]
  intro h1 h2
  cases h3 : Op.bytesLess x.e.path z.e.path
  · rfl
  · by_cases h4 : y.e.path = z.e.path
    · rw [h4] at h1; rw [h1] at h3; cases h3
    · have := bl_trans _ _ _ h3 (bl_total _ _ h2 h4)
      rw [h1] at this; cases this

set_option maxRecDepth 100000 in
set_option maxHeartbeats 1600000 in
theorem sortItems_any (B g n c : Nat) (rs ss : List Rw) (w : World) (h : w.ownsRow B 51 4 (.slice (some ⟨g, 0, none⟩) n c) n (rowI rs)) (hn : n = rs.length) (h12 : n ≤ 12) (hp : ss.Perm rs) (hs : ss.Pairwise (fun x y => Op.bytesLess x.e.path y.e.path = true)) :
    Calls Tryz.prog 22 #[.slice (some ⟨g, 0, none⟩) n c, .func (.func 23) #[] #[]] w fun e w' => e = .returned (.tuple #[]) ∧ (∀ i q r, ss[i]? = some r → q < 4 → w'.cell? ⟨g, i * 4 + q, none⟩ = (cellsI r)[q]?) ∧ Kept (fun b => b = g) w w' := by
  subst hn
  haveI : Inhabited Rw := ⟨⟨⟨[], 0, 0, []⟩, none, 0⟩⟩
  have hg := (h.lt g rfl).2
  have hH : HoldsK cellsI 4 w g 0 rs.toArray := by
    intro j hj
    rw [size_flatK] at hj
    have hj4 : j < rs.length * 4 := by simpa using hj
    have h1 : j / 4 < rs.length := by omega
    obtain ⟨r, hr⟩ : ∃ r, rs[j / 4]? = some r := ⟨_, List.getElem?_eq_getElem h1⟩
    have hc := (h.cellAt (j / 4 * 4 + j % 4) (by omega)).trans (rowI_get rs (j / 4) (j % 4) _ hr (by omega))
    rw [show j / 4 * 4 + j % 4 = j by omega] at hc
    refine ⟨?_, h.frozenAt _⟩
    rw [Nat.zero_add, hc, get_flatK _ _ _ _ hj]
    have e1 : rs.toArray[j / 4]! = r := by
      have := List.getElem?_eq_some_iff.1 hr
      simp [h1, this.2]
    rw [e1]
    have hl : j % 4 < (cellsI r).length := by show j % 4 < 4; omega
    simp only [id]
    rw [List.getElem?_eq_getElem hl, getElem!_pos (cellsI r) (j % 4) hl]
  have eg : ∀ args w, (callFunc 23 args).run Tryz.prog w = .ok (.enter 23 args) w := enters_of Tryz.func23 (by kernel_rfl) rfl
  have hlen : ∀ (n : Nat) (W : World), n ≤ 12 → Calls Tryz.prog (Tryz.sortB_ren.f 15) #[.int .u64 n] W fun e w' => (∃ l : Int, e = .returned (.int .i64 l)) ∧ w' = W := fun n W hn =>
    (Any.bits_Len Tryz.lenB n W (by omega) (by omega)).mono fun _ _ ⟨he, hw⟩ => ⟨⟨_, he⟩, hw⟩
  have hcon := AnyQ.slices_SortFunc_small_sorted Tryz.sortB 4 Tryz.isAgg51 Tryz.sizeOf51 cellsI (fun _ => rfl) (fun x v hv => rowI_one [x] v (by simpa [rowI] using hv)) (fun x y => cmpB x.e.path y.e.path) 23 #[] swo_path g 0 c rs.toArray w eg (fun _ _ _ _ x y => sortLit_any x y _) hH hg (by simpa using h12) hlen
  refine (show Calls Tryz.prog 22 #[.slice (some ⟨g, 0, none⟩) rs.length c, .func (.func 23) #[] #[]] w _ from hcon).mono ?_
  rintro e w' ⟨he, d', m, os, hperm, hsort, rfl⟩
  obtain ⟨hsz, _, hpm⟩ := hperm
  have hsz' : d'.size = rs.length := by simpa using hsz
  have hpm' : d'.toList.Perm rs := by
    have e1 : (d'.extract 0 rs.toArray.size).toList = d'.toList := by simp [← hsz']
    have e2 : (rs.toArray.extract 0 rs.toArray.size).toList = rs := by simp
    rw [e1, e2] at hpm
    exact hpm
  have hnd : ss.Pairwise (fun x y => x.e.path ≠ y.e.path) := hs.imp (fun h => bl_ne h)
  have hnd' : d'.toList.Pairwise (fun x y => x.e.path ≠ y.e.path) := (hpm'.trans hp.symm).symm.pairwise hnd (fun h => h.symm)
  have hd : d'.toList = ss := by
    refine rise_unique (hpm'.trans hp.symm) ?_ hs
    rw [List.pairwise_iff_getElem]
    intro i j hi hj hij
    have hne := List.pairwise_iff_getElem.1 hnd' i j hi hj hij
    have hlt := hsort i j (Nat.zero_le _) hij (by simpa [← hsz'] using hj)
    have e1 : ltOf (fun x y : Rw => cmpB x.e.path y.e.path) d'[j]! d'[i]! = Op.bytesLess d'[j]!.e.path d'[i]!.e.path := cmpB_lt _ _
    rw [e1] at hlt
    have hi' : i < d'.size := by simpa using hi
    have hj' : j < d'.size := by simpa using hj
    rw [getElem!_pos d' i hi', getElem!_pos d' j hj'] at hlt
    simp only [Array.getElem_toList] at hne ⊢
    exact bl_total _ _ hlt (fun x => hne x.symm)
  have hK := holdsK_sortWorldK_c cellsI 4 w g 0 rs.toArray d' m os hH hg (by simpa using hsz')
  refine ⟨he, fun i q r hi hq => ?_, ?_⟩
  · rw [← hd] at hi
    have hi' : i < d'.size := by have := (List.getElem?_eq_some_iff.1 hi).1; simpa using this
    have := (hK.cell (i := i) (c := q) hi' hq).1
    rw [Nat.zero_add] at this
    rw [this]
    have e1 : d'[i]! = r := by
      rw [getElem!_pos d' i hi']
      have := (List.getElem?_eq_some_iff.1 hi).2
      simpa using this
    rw [e1]
    have hl : q < (cellsI r).length := hq
    rw [List.getElem?_eq_getElem hl, getElem!_pos (cellsI r) q hl]
  · refine ⟨rfl, rfl, rfl, ?_, fun k hk hn => ?_⟩
    · show w.heap.size ≤ ((w.heap.modify g _) ++ os).size
      simp
    · show ((w.heap.modify g _) ++ os)[k]? = w.heap[k]?
      rw [Array.getElem?_append_left (by simpa using hk), Array.getElem?_modify]
      have : ¬ g = k := fun e => hn e.symm
      simp [this]

end Go.Proofs.YtokcibegjhfofaaGreat
