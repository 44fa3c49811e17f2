/-
  Texts put together: LayB SnpS SnpH SnpE SnpF SnpG.
-/
import Derived.Shelf.SlSortCmp.WholeK
import Derived.Ground.SlsfProg
import Derived.Test.YteegkblkfdnfiaaGreatProg
import Derived.Test.YteegkblkfdnfiaaGreatKTold7
import Derived.Test.YteegkblkfdnfiaaGreatKTold14
import Derived.Test.YteegkblkfdnfiaaGreatKTold9
import Derived.Test.YteegkblkfdnfiaaGreatKTold8
namespace Go.Proofs.YteegkblkfdnfiaaGreat
open Go.RowKit Go.Sort Go.Shelf
set_option linter.unusedVariables false
def Tryz.sortN_ren : Go.Shelf.Ren := ⟨fun | 6 => 122 | 15 => 167 | 14 => 166 | 28 => 219 | 29 => 220 | 20 => 211 | 21 => 212 | 22 => 213 | 23 => 214 | 24 => 215 | 25 => 216 | 26 => 217 | 27 => 218 | 46 => 248 | 47 => 249 | 48 => 250 | 49 => 251 | 50 => 252 | 57 => 267 | n => n, fun | 22 => 24 | 24 => 37 | 25 => 156 | 3 => 3 | 39 => 176 | 0 => 0 | 53 => 175 | 55 => 224 | 4 => 4 | 46 => 216 | 45 => 215 | 50 => 220 | 5 => 5 | 9 => 9 | 66 => 242 | 70 => 246 | 76 => 256 | 77 => 257 | n => n, fun | n => n⟩
theorem Tryz.sortN : Go.Proofs.SlLaysF0.n6 Tryz.prog Tryz.sortN_ren := {
  mixed := by kernel_rfl
  f6 := ⟨Tryz.f122.name, by decide, Tryz.func122.trans (congrArg some (by kernel_rfl))⟩
  f14 := ⟨Tryz.f166.name, by decide, Tryz.func166.trans (congrArg some (by kernel_rfl))⟩
  f15 := Tryz.func167.trans (congrArg some (by kernel_rfl))
  f20 := ⟨Tryz.f211.name, by decide, Tryz.func211.trans (congrArg some (by kernel_rfl))⟩
  f21 := ⟨Tryz.f212.name, by decide, Tryz.func212.trans (congrArg some (by kernel_rfl))⟩
  f22 := ⟨Tryz.f213.name, by decide, Tryz.func213.trans (congrArg some (by kernel_rfl))⟩
  f23 := ⟨Tryz.f214.name, by decide, Tryz.func214.trans (congrArg some (by kernel_rfl))⟩
  f24 := ⟨Tryz.f215.name, by decide, Tryz.func215.trans (congrArg some (by kernel_rfl))⟩
  f25 := ⟨Tryz.f216.name, by decide, Tryz.func216.trans (congrArg some (by kernel_rfl))⟩
  f26 := ⟨Tryz.f217.name, by decide, Tryz.func217.trans (congrArg some (by kernel_rfl))⟩
  f27 := ⟨Tryz.f218.name, by decide, Tryz.func218.trans (congrArg some (by kernel_rfl))⟩
  f28 := Tryz.func219.trans (congrArg some (by kernel_rfl))
  f29 := Tryz.func220.trans (congrArg some (by kernel_rfl))
  f46 := ⟨Tryz.f248.name, by decide, Tryz.func248.trans (congrArg some (by kernel_rfl))⟩
  f47 := Tryz.func249.trans (congrArg some (by kernel_rfl))
  f48 := Tryz.func250.trans (congrArg some (by kernel_rfl))
  f49 := ⟨Tryz.f251.name, by decide, Tryz.func251.trans (congrArg some (by kernel_rfl))⟩
  f50 := ⟨Tryz.f252.name, by decide, Tryz.func252.trans (congrArg some (by kernel_rfl))⟩
  f57 := ⟨Tryz.f267.name, by decide, Tryz.func267.trans (congrArg some (by kernel_rfl))⟩
  t0 := Tryz.underlying0
  a0 := Tryz.isAgg0
  z0 := Tryz.sizeOf0
  v0 := Tryz.zeroValue0
  t3 := Tryz.underlying3
  a3 := Tryz.isAgg3
  z3 := Tryz.sizeOf3
  v3 := Tryz.zeroValue3
  t4 := Tryz.underlying4
  a4 := Tryz.isAgg4
  z4 := Tryz.sizeOf4
  v4 := Tryz.zeroValue4
  t5 := Tryz.underlying5
  a5 := Tryz.isAgg5
  z5 := Tryz.sizeOf5
  v5 := Tryz.zeroValue5
  t9 := Tryz.underlying9
  a9 := Tryz.isAgg9
  z9 := Tryz.sizeOf9
  v9 := Tryz.zeroValue9
  t22 := Tryz.underlying24
  a22 := Tryz.isAgg24
  z22 := Tryz.sizeOf24
  v22 := Tryz.zeroValue24
  t25 := Tryz.underlying156
  a25 := Tryz.isAgg156
  z25 := Tryz.sizeOf156
  v25 := Tryz.zeroValue156
  t39 := Tryz.underlying176
  a39 := Tryz.isAgg176
  z39 := Tryz.sizeOf176
  v39 := Tryz.zeroValue176
  t45 := Tryz.underlying215
  a45 := Tryz.isAgg215
  z45 := Tryz.sizeOf215
  v45 := Tryz.zeroValue215
  t46 := Tryz.underlying216
  a46 := Tryz.isAgg216
  z46 := Tryz.sizeOf216
  v46 := Tryz.zeroValue216
  t50 := Tryz.underlying220
  a50 := Tryz.isAgg220
  z50 := Tryz.sizeOf220
  v50 := Tryz.zeroValue220
  t53 := Tryz.underlying175
  a53 := Tryz.isAgg175
  z53 := Tryz.sizeOf175
  v53 := Tryz.zeroValue175
  t55 := Tryz.underlying224
  a55 := Tryz.isAgg224
  z55 := Tryz.sizeOf224
  v55 := Tryz.zeroValue224
  t66 := Tryz.underlying242
  a66 := Tryz.isAgg242
  z66 := Tryz.sizeOf242
  v66 := Tryz.zeroValue242
  t70 := Tryz.underlying246
  a70 := Tryz.isAgg246
  z70 := Tryz.sizeOf246
  v70 := Tryz.zeroValue246
  t76 := Tryz.underlying256
  a76 := Tryz.isAgg256
  z76 := Tryz.sizeOf256
  v76 := Tryz.zeroValue256
  t77 := Tryz.underlying257
  a77 := Tryz.isAgg257
  z77 := Tryz.sizeOf257
  v77 := Tryz.zeroValue257 }
end Go.Proofs.YteegkblkfdnfiaaGreat

namespace Go.Proofs.YteegkblkfdnfiaaGreat
open Go.RowKit Go.Sort
set_option linter.unusedVariables false

set_option maxHeartbeats 800000 in
theorem sortLitN_any (x y : Rs) (W : World) : Calls Tryz.prog 123 #[.agg (cellsN x).toArray, .agg (cellsN y).toArray] W fun e w' => e = .returned (.int .i64 (cmpB x.s.name y.s.name)) ∧ ∃ q os', w' = grow (W.drewN q) os' := by
  have hcon := fun W' => compare_any x.s.name y.s.name W'
  generalize cmpB x.s.name y.s.name = r at hcon ⊢
  show Calls Tryz.prog 123 #[.agg #[.string (str x.s.name), .string (str x.s.parent), .int .i64 x.s.kind, .bool x.s.lease, .slice x.a x.s.layer.length x.c], .agg #[.string (str y.s.name), .string (str y.s.parent), .int .i64 y.s.kind, .bool y.s.lease, .slice y.a y.s.layer.length y.c]] W _
  go_enter Tryz.func123, Tryz.ntmps123
  go_wp2_with (go_at_call 124; refine (hcon _).mono ?_; rintro e w' ⟨rfl, rfl⟩)
  go_ret
  exact ⟨rfl, 0, _, by rw [alloc_eq_grow, alloc_eq_grow, grow_grow]; rfl⟩

theorem riseRs_unique : ∀ {l1 l2 : List Rs}, l1.Perm l2 → l1.Pairwise (fun x y => Op.bytesLess x.s.name y.s.name = true) → l2.Pairwise (fun x y => Op.bytesLess x.s.name y.s.name = true) → l1 = l2
  | [], l2, hp, _, _ => hp.symm.eq_nil.symm
  | a :: l1, [], hp, _, _ => by have := hp.length_eq; simp at this
  | a :: l1, b :: l2, hp, h1, h2 => by
    have p1 := List.pairwise_cons.1 h1
    have p2 := List.pairwise_cons.1 h2
    have hab : a = b := by
      have ha : a ∈ b :: l2 := hp.subset List.mem_cons_self
      have hb : b ∈ a :: l1 := hp.symm.subset List.mem_cons_self
      rcases List.mem_cons.1 ha with h | ha
      · exact h
      · rcases List.mem_cons.1 hb with h | hb
        · exact h.symm
        · have q1 := p2.1 a ha
          have q2 := p1.1 b hb
          rw [bl_asymm q1] at q2
          cases q2
    subst hab
    rw [riseRs_unique (List.Perm.cons_inv hp) p1.2 p2.2]

theorem swo_name : SWO (ltOf fun x y : Rs => cmpB x.s.name y.s.name) := by
  have e : ∀ x y : Rs, ltOf (fun x y : Rs => cmpB x.s.name y.s.name) x y = Op.bytesLess x.s.name y.s.name := fun x y => cmpB_lt _ _
  refine ⟨fun x => by rw [e, bl_irrefl], fun x y z => by rw [e, e, e]; exact bl_trans _ _ _, fun x y z => ?_⟩
  rw [e, e, e]
  intro h1 h2
  cases h3 : Op.bytesLess x.s.name z.s.name
  · rfl
  · by_cases h4 : y.s.name = z.s.name
    · rw [h4] at h1; rw [h1] at h3; cases h3
    · have := bl_trans _ _ _ h3 (bl_total _ _ h2 h4)
      rw [h1] at this; cases this

set_option maxRecDepth 100000 in
set_option maxHeartbeats 1600000 in
theorem sortSnaps_any (B g n c : Nat) (rs ss : List Rs) (w : World) (h : w.ownsRow B 37 5 (.slice (some ⟨g, 0, none⟩) n c) n (rowN rs)) (hn : n = rs.length) (h12 : n ≤ 1048577) (hp : ss.Perm rs) (hs : ss.Pairwise (fun x y => Op.bytesLess x.s.name y.s.name = true)) :
    Calls Tryz.prog 122 #[.slice (some ⟨g, 0, none⟩) n c, .func (.func 123) #[] #[]] w fun e w' => e = .returned (.tuple #[]) ∧ (∀ i q r, ss[i]? = some r → q < 5 → w'.cell? ⟨g, i * 5 + q, none⟩ = (cellsN r)[q]?) ∧ Kept (fun b => b = g) w w' := by
  subst hn
  haveI : Inhabited Rs := ⟨⟨⟨[], [], 0, false, []⟩, none, 0⟩⟩
  have hg := (h.lt g rfl).2
  have hH : HoldsK cellsN 5 w g 0 rs.toArray := by
    intro j hj
    rw [size_flatK] at hj
    have hj5 : j < rs.length * 5 := by simpa using hj
    have h1 : j / 5 < rs.length := by omega
    obtain ⟨r, hr⟩ : ∃ r, rs[j / 5]? = some r := ⟨_, List.getElem?_eq_getElem h1⟩
    have hc := (h.cellAt (j / 5 * 5 + j % 5) (by omega)).trans (rowN_get rs (j / 5) (j % 5) _ hr (by omega))
    rw [show j / 5 * 5 + j % 5 = j by omega] at hc
    refine ⟨?_, h.frozenAt _⟩
    rw [Nat.zero_add, hc, get_flatK _ _ _ _ hj]
    have e1 : rs.toArray[j / 5]! = r := by
      have := List.getElem?_eq_some_iff.1 hr
      simp [h1, this.2]
    rw [e1]
    have hl : j % 5 < (cellsN r).length := by show j % 5 < 5; omega
    simp only [id]
    rw [List.getElem?_eq_getElem hl, getElem!_pos (cellsN r) (j % 5) hl]
  have eg : ∀ args w, (callFunc 123 args).run Tryz.prog w = .ok (.enter 123 args) w := enters_of Tryz.func123 (by kernel_rfl) rfl
  have hcon := AnyQ.slices_SortFunc Tryz.sortN 5 Tryz.isAgg37 Tryz.sizeOf37 cellsN (fun _ => rfl) (fun x v hv => rowN_one [x] v (by simpa [rowN] using hv)) (fun x y => cmpB x.s.name y.s.name) swo_name 123 #[] g 0 c rs.toArray w eg (fun _ _ _ _ x y => sortLitN_any x y _) hH hg (by have h2 := h12; simpa using (by omega : rs.length < 4611686018427387904))
  refine (show Calls Tryz.prog 122 #[.slice (some ⟨g, 0, none⟩) rs.length c, .func (.func 123) #[] #[]] w _ from hcon).mono ?_
  rintro e w' ⟨he, d', m, os, hperm, hsort, rfl⟩
  obtain ⟨hsz, _, hpm⟩ := hperm
  have hsz' : d'.size = rs.length := by simpa using hsz
  have hpm' : d'.toList.Perm rs := by
    have e1 : (d'.extract 0 rs.toArray.size).toList = d'.toList := by simp [← hsz']
    have e2 : (rs.toArray.extract 0 rs.toArray.size).toList = rs := by simp
    rw [e1, e2] at hpm
    exact hpm
  have hnd : ss.Pairwise (fun x y => x.s.name ≠ y.s.name) := hs.imp (fun h => bl_ne h)
  have hnd' : d'.toList.Pairwise (fun x y => x.s.name ≠ y.s.name) := (hpm'.trans hp.symm).symm.pairwise hnd (fun h => h.symm)
  have hd : d'.toList = ss := by
    refine riseRs_unique (hpm'.trans hp.symm) ?_ hs
    rw [List.pairwise_iff_getElem]
    intro i j hi hj hij
    have hne := List.pairwise_iff_getElem.1 hnd' i j hi hj hij
    have hlt := hsort i j (Nat.zero_le _) hij (by simpa [← hsz'] using hj)
    have e1 : ltOf (fun x y : Rs => cmpB x.s.name y.s.name) d'[j]! d'[i]! = Op.bytesLess d'[j]!.s.name d'[i]!.s.name := cmpB_lt _ _
    rw [e1] at hlt
    have hi' : i < d'.size := by simpa using hi
    have hj' : j < d'.size := by simpa using hj
    rw [getElem!_pos d' i hi', getElem!_pos d' j hj'] at hlt
    simp only [Array.getElem_toList] at hne ⊢
    exact bl_total _ _ hlt (fun x => hne x.symm)
  have hK := holdsK_sortWorldK_c cellsN 5 w g 0 rs.toArray d' m os hH hg (by simpa using hsz')
  refine ⟨he, fun i q r hi hq => ?_, ?_⟩
  · rw [← hd] at hi
    have hi' : i < d'.size := by have := (List.getElem?_eq_some_iff.1 hi).1; simpa using this
    have := (hK.cell (i := i) (c := q) hi' hq).1
    rw [Nat.zero_add] at this
    rw [this]
    have e1 : d'[i]! = r := by
      rw [getElem!_pos d' i hi']
      have := (List.getElem?_eq_some_iff.1 hi).2
      simpa using this
    rw [e1]
    have hl : q < (cellsN r).length := hq
    rw [List.getElem?_eq_getElem hl, getElem!_pos (cellsN r) q hl]
  · refine ⟨rfl, rfl, rfl, ?_, fun k hk hn => ?_⟩
    · show w.heap.size ≤ ((w.heap.modify g _) ++ os).size
      simp
    · show ((w.heap.modify g _) ++ os)[k]? = w.heap[k]?
      rw [Array.getElem?_append_left (by simpa using hk), Array.getElem?_modify]
      have : ¬ g = k := fun e => hn e.symm
      simp [this]
end Go.Proofs.YteegkblkfdnfiaaGreat

namespace Go.Proofs.YteegkblkfdnfiaaGreat
open Go.RowKit Go.Maps Go.Sort
set_option linter.unusedVariables false
attribute [local go_sem ↓] Go.wp_at_zero Go.wp_at_succ

theorem perm_lift {α β : Type} (f : α → β) {ys zs : List β} (h : ys.Perm zs) : ∀ xs : List α, xs.map f = ys → ∃ us : List α, us.Perm xs ∧ us.map f = zs := by
  induction h with
  | nil => intro xs hx; exact ⟨xs, List.Perm.refl _, hx⟩
  | cons b hp ih =>
    intro xs hx
    cases xs with
    | nil => simp at hx
    | cons x xs =>
      simp only [List.map_cons, List.cons.injEq] at hx
      obtain ⟨us, h1, h2⟩ := ih xs hx.2
      exact ⟨x :: us, h1.cons x, by rw [List.map_cons, h2, hx.1]⟩
  | swap b c l =>
    intro xs hx
    match xs, hx with
    | [], hx => simp at hx
    | [x], hx => simp at hx
    | x :: y :: xs, hx =>
      simp only [List.map_cons, List.cons.injEq] at hx
      exact ⟨y :: x :: xs, List.Perm.swap x y xs, by simp [hx.1, hx.2.1, hx.2.2]⟩
  | trans h1 h2 ih1 ih2 =>
    intro xs hx
    obtain ⟨us, p1, q1⟩ := ih1 xs hx
    obtain ⟨vs, p2, q2⟩ := ih2 us q1
    exact ⟨vs, p2.trans p1, q2⟩
theorem off_bond {l : List Sn} {s : Sn} (h : ∀ e ∈ l, e.name = s.name → e.parent = s.parent) : l.filter (fun e => !(e.name == s.name && e.parent == s.parent)) = offN l s.name := by
  unfold offN
  apply List.filter_congr
  intro e he
  by_cases hn : e.name = s.name
  · have := h e he hn
    simp [hn, this]
  · simp [hn]
theorem news_snap {u : World} {b : Nat} {s : Sn} {x : Option Addr} {cc : Nat} (h : Five u b (.string (str s.name)) (.string (str s.parent)) (.int .i64 s.kind) (.bool s.lease) (.slice x s.layer.length cc)) : ∀ j v, (cellsN ⟨s, x, cc⟩)[j]? = some v → u.cell? ((⟨b, 0, none⟩ : Addr).add j) = some v := by
  intro j v hj
  rw [add_addr, Nat.zero_add]
  obtain ⟨h0, h1, h2, h3, h4⟩ := h
  match j, hj with
  | 0, hj => simp [cellsN] at hj; subst hj; exact h0
  | 1, hj => simp [cellsN] at hj; subst hj; exact h1
  | 2, hj => simp [cellsN] at hj; subst hj; exact h2
  | 3, hj => simp [cellsN] at hj; subst hj; exact h3
  | 4, hj => simp [cellsN] at hj; subst hj; exact h4
set_option maxRecDepth 100000 in
set_option maxHeartbeats 1600000 in
theorem withoutSnapLit_any (s : Sn) (x : Option Addr) (cc : Nat) (b : Nat) (e : Sn) (a : Option Addr) (c : Nat) (w : World) (h : Five w b (.string (str s.name)) (.string (str s.parent)) (.int .i64 s.kind) (.bool s.lease) (.slice x s.layer.length cc)) :
    Calls Tryz.prog 102 #[.agg #[.string (str e.name), .string (str e.parent), .int .i64 e.kind, .bool e.lease, .slice a e.layer.length c], .pointer (some ⟨b, 0, none⟩)] w fun r w' => r = .returned (.bool (e.name == s.name && e.parent == s.parent)) ∧ Below w.heap.size w w' := by
  have B0 := hide (below_alloc w (.cells #[.string (str e.name), .string (str e.parent), .int .i64 e.kind, .bool e.lease, .slice a e.layer.length c] 37))
  have F1 := hide (h.below B0.out)
  have F2 := hide (Five.new w (.string (str e.name)) (.string (str e.parent)) (.int .i64 e.kind) (.bool e.lease) (.slice a e.layer.length c) 37)
  have HC1 := hide (fun u => bondOf_any e a c u)
  have HC2 := hide (fun u => bondOf_any s x cc u)
  have hbe : ((str e.name).toList == (str s.name).toList) = (e.name == s.name) := by rw [str_beq]; by_cases h : e.name = s.name <;> simp [h]
  have hbp : ((str e.parent).toList == (str s.parent).toList) = (e.parent == s.parent) := by rw [str_beq]; by_cases h : e.parent = s.parent <;> simp [h]
  generalize (e.name == s.name) = Z1 at *
  generalize (e.parent == s.parent) = Z2 at *
  clear h
  go_enter Tryz.func102, Tryz.ntmps102
  go_wp2_with fail
  generalize w.alloc (.cells #[.string (str e.name), .string (str e.parent), .int .i64 e.kind, .bool e.lease, .slice a e.layer.length c] 37) = W0 at *
  have KC : Hid (∀ w' : World, Below W0.heap.size W0 w' → Five w' w.heap.size (.string (str e.name)) (.string (str e.parent)) (.int .i64 e.kind) (.bool e.lease) (.slice a e.layer.length c) ∧ Five w' b (.string (str s.name)) (.string (str s.parent)) (.int .i64 s.kind) (.bool s.lease) (.slice x s.layer.length cc)) := hide (fun w' hb => ⟨F2.out.below hb, F1.out.below hb⟩)
  refine wp_region_held_drew (S := fun w' => Five w' w.heap.size (.string (str e.name)) (.string (str e.parent)) (.int .i64 e.kind) (.bool e.lease) (.slice a e.layer.length c) ∧ Five w' b (.string (str s.name)) (.string (str s.parent)) (.int .i64 s.kind) (.bool s.lease) (.slice x s.layer.length cc)) (by kernel_rfl) (KC.out _ (Below.refl _ _).drew) (fun hHeld => ?_)
  change wpAnyH _ _ _ _ _ _ (Array.replicate _ false) _ _
  refine wpAnyH_take (i := 0) (oi := { dst := some 4, op := _, type := _, pos := _, after := _, guard := _ }) (v := .agg #[.string (str e.name), .string (str e.parent), .int .i64 e.kind, .bool e.lease, .slice a e.layer.length c]) rfl (by kernel_rfl) (by kernel_rfl) (by kernel_rfl) (fun _ _ _ h => h) (Or.inl ⟨by rfl, ?_⟩) hHeld ?_
  · rintro w ⟨⟨q0, q1, q2, q3, q4⟩, p0, p1, p2, p3, p4⟩
    go_simp
  try simp only [Act.put, List.setIfInBounds_toArray, List.set_cons_zero, List.set_cons_succ]
  refine wpAnyH_take (i := 2) (oi := { dst := some 6, op := _, type := _, pos := _, after := _, guard := _ }) (v := .agg #[.string (str s.name), .string (str s.parent), .int .i64 s.kind, .bool s.lease, .slice x s.layer.length cc]) rfl (by kernel_rfl) (by kernel_rfl) (by kernel_rfl) (fun _ _ _ h => h) (Or.inl ⟨by rfl, ?_⟩) hHeld ?_
  · rintro w ⟨⟨q0, q1, q2, q3, q4⟩, p0, p1, p2, p3, p4⟩
    go_simp
  try simp only [Act.put, List.setIfInBounds_toArray, List.set_cons_zero, List.set_cons_succ]
  refine wpAnyH_ready (rs := [1]) (by kernel_rfl) (by simp) ?_
  refine AllReadyH.cons rfl (fun K hK => ?_) AllReadyH.nil
  · go_simp
    refine (HC1.out _).mono ?_
    rintro r w3 ⟨rfl, hb3⟩
    have B3 := hide (below_next ((Below.refl W0.heap.size W0).drew) hb3)
    clear hb3
    go_wp2_with fail
    refine hK.out _ _ (KC.out _ B3.out) (fun hHeld => ?_)
    clear hK K
    try simp only [Act.put, List.setIfInBounds_toArray, List.set_cons_zero, List.set_cons_succ]
    refine wpAnyH_ready (rs := [3]) (by kernel_rfl) (by simp) ?_
    refine AllReadyH.cons rfl (fun K hK => ?_) AllReadyH.nil
    go_simp
    refine (HC2.out _).mono ?_
    rintro r w4 ⟨rfl, hb4⟩
    have B4 := hide (below_next B3.out hb4)
    clear hb4
    go_wp2_with fail
    refine hK.out _ _ (KC.out _ B4.out) (fun hHeld => ?_)
    clear hK K
    try simp only [Act.put, List.setIfInBounds_toArray, List.set_cons_zero, List.set_cons_succ]
    refine wpAnyH_take (i := 4) (oi := { dst := some 8, op := _, type := _, pos := _, after := _, guard := _ }) (v := .bool (Z1 && Z2)) rfl (by kernel_rfl) (by kernel_rfl) (by kernel_rfl) (fun _ _ _ h => h) (Or.inl ⟨by rfl, ?_⟩) hHeld ?_
    · rintro w ⟨⟨q0, q1, q2, q3, q4⟩, p0, p1, p2, p3, p4⟩
      go_simp; (cases Z1 <;> cases Z2 <;> rfl)
    try simp only [Act.put, List.setIfInBounds_toArray, List.set_cons_zero, List.set_cons_succ]
    refine wpAnyH_take (i := 5) (oi := { dst := some 3, op := _, type := _, pos := _, after := _, guard := _ }) (v := .bool (Z1 && Z2)) rfl (by kernel_rfl) (by kernel_rfl) (by kernel_rfl) (fun _ _ _ h => h) (Or.inl ⟨by rfl, ?_⟩) hHeld ?_
    · rintro w ⟨⟨q0, q1, q2, q3, q4⟩, p0, p1, p2, p3, p4⟩
      go_simp
    try simp only [Act.put, List.setIfInBounds_toArray, List.set_cons_zero, List.set_cons_succ]
    refine wpAnyH_done (by kernel_rfl) ?_ _
    go_wp2_with fail
    go_ret
    exact ⟨rfl, below_next B0.out B4.out⟩
set_option maxRecDepth 100000 in
set_option maxHeartbeats 1600000 in
theorem withoutSnap_any (a : Option Addr) (c n : Nat) (l : List Sn) (s : Sn) (x : Option Addr) (cc : Nat) (w0 w : World) (hb0 : Below w0.heap.size w0 w) (h : RdS w0 a l) (hn : n = l.length) (hl : l.length ≤ 1048576) (hbd : ∀ e ∈ l, e.name = s.name → e.parent = s.parent) :
    Calls Tryz.prog 61 #[.slice a n c, .agg #[.string (str s.name), .string (str s.parent), .int .i64 s.kind, .bool s.lease, .slice x s.layer.length cc]] w fun r w' => ∃ av cv, r = .returned (.slice av (offN l s.name).length cv) ∧ LN w.heap.size w0 w' (.slice av (offN l s.name).length cv) (offN l s.name) ∧ Below w.heap.size w w' := by
  have hmf : ∀ (fn : Fn) (first cap : Array Value) (w : World), (Instr.makeFunc fn first cap).run Tryz.prog w = .ok (.func fn first cap) w := fun _ _ _ _ => rfl
  subst hn
  have B0 := hide (below_alloc w (.cells #[.string (str s.name), .string (str s.parent), .int .i64 s.kind, .bool s.lease, .slice x s.layer.length cc] 37))
  have HA : Hid (AsksN (w.alloc (.cells #[.string (str s.name), .string (str s.parent), .int .i64 s.kind, .bool s.lease, .slice x s.layer.length cc] 37)) 102 #[.pointer (some ⟨w.heap.size, 0, none⟩)] (fun e => e.name == s.name && e.parent == s.parent)) := hide ⟨enters_of Tryz.func102 (by kernel_rfl) rfl, fun e a c w' hb =>
    withoutSnapLit_any s x cc w.heap.size e a c w' ((Five.new w (.string (str s.name)) (.string (str s.parent)) (.int .i64 s.kind) (.bool s.lease) (.slice x s.layer.length cc) 37).below hb)⟩
  have HC := hide (withoutN_any a c l.length l _ _ (fun e => e.name == s.name && e.parent == s.parent) w0 _ (below_next hb0 B0.out) h rfl hl HA.out)
  rw [off_bond hbd] at HC
  clear h HA hb0 hbd
  go_enter Tryz.func61, Tryz.ntmps61
  go_wp2_with fail
  generalize w.alloc (.cells #[.string (str s.name), .string (str s.parent), .int .i64 s.kind, .bool s.lease, .slice x s.layer.length cc] 37) = W0 at *
  refine HC.out.mono ?_
  rintro r w1 ⟨av, cv, rfl, hL, hb1⟩
  have HL := hide hL
  have B1 := hide hb1
  clear hL hb1 HC
  go_wp2_with fail
  go_ret
  exact ⟨av, cv, rfl, HL.out.mono (by have := B0.out.size; omega), below_next B0.out B1.out⟩
end Go.Proofs.YteegkblkfdnfiaaGreat

namespace Go.Proofs.YteegkblkfdnfiaaGreat
open Go.RowKit Go.Maps
set_option linter.unusedVariables false
attribute [local go_sem ↓] Go.wp_at_zero Go.wp_at_succ

theorem isNone_no (s : Sn) (x : Option Addr) (c : Nat) (w : World) (h : s.name ≠ []) :
    Calls Tryz.prog 44 #[.agg #[.string (str s.name), .string (str s.parent), .int .i64 s.kind, .bool s.lease, .slice x s.layer.length c]] w fun r w' => r = .returned (.bool false) ∧ Below w.heap.size w w' := by
  have e : (s.name.isEmpty && s.parent.isEmpty) = false := by cases hs : s.name with | nil => exact absurd hs h | cons a b => rfl
  have := isNone_any s x c w
  rwa [e] at this
theorem isNone_yes (x : Option Addr) (c : Nat) (w : World) :
    Calls Tryz.prog 44 #[.agg #[.string (str zeroS.name), .string (str zeroS.parent), .int .i64 zeroS.kind, .bool zeroS.lease, .slice x zeroS.layer.length c]] w fun r w' => r = .returned (.bool true) ∧ Below w.heap.size w w' := isNone_any zeroS x c w
def lenOfV : Value → Nat
  | .slice _ n _ => n
  | _ => 0
theorem line_more {l : List Sn} {k : Nat} {e : Sn} (hk : k ≤ 4) : lineS l (5 - k) (some e) = e :: lineS l (5 - (k + 1)) (atS l e.parent) := by
  have : 5 - k = (5 - (k + 1)) + 1 := by omega
  rw [this]; rfl
set_option maxRecDepth 100000 in
set_option maxHeartbeats 3200000 in
theorem lineOf_any (a : Option Addr) (c n : Nat) (l : List Sn) (s : Sn) (x : Option Addr) (cc : Nat) (w0 w : World) (hb0 : Below w0.heap.size w0 w) (h : RdS w0 a l) (hx : RdE w0 x s.layer) (hn : n = l.length) (hl : l.length ≤ 1048576) (hne : ∀ y ∈ l, y.name ≠ []) (hs : s.name ≠ []) :
    Calls Tryz.prog 46 #[.slice a n c, .agg #[.string (str s.name), .string (str s.parent), .int .i64 s.kind, .bool s.lease, .slice x s.layer.length cc]] w fun r w' => ∃ av cv, r = .returned (.slice av (lineS l 5 (some s)).length cv) ∧ LN w.heap.size w0 w' (.slice av (lineS l 5 (some s)).length cv) (lineS l 5 (some s)) ∧ Below w.heap.size w w' := by
  subst hn
  obtain ⟨i1, ki, kz0, kz1, kz2⟩ := info_parts Tryz.infoSn
  obtain ⟨L, hL⟩ : ∃ L, L = lineS l 5 (some s) := ⟨_, rfl⟩
  rw [← hL]
  have HL := hide hL
  have HR := hide h
  have HB0 := hide hb0
  have HNE := hide hne
  have X0 := hide (Box5.new w (.string (str s.name)) (.string (str s.parent)) (.int .i64 s.kind) (.bool s.lease) (.slice x s.layer.length cc) 37)
  have B0 := hide (below_alloc w (.cells #[.string (str s.name), .string (str s.parent), .int .i64 s.kind, .bool s.lease, .slice x s.layer.length cc] 37))
  have HX := hide hx
  have HS := hide hs
  clear h hb0 hne hL hx hs
  go_enter Tryz.func46, Tryz.ntmps46
  go_wp2_with fail
  have hs1 : w.heap.size < (w.alloc (.cells #[.string (str s.name), .string (str s.parent), .int .i64 s.kind, .bool s.lease, .slice x s.layer.length cc] 37)).heap.size := by simp
  generalize w.alloc (.cells #[.string (str s.name), .string (str s.parent), .int .i64 s.kind, .bool s.lease, .slice x s.layer.length cc] 37) = W0 at *
  go_loopw [5] (fun v wr => ∃ (pre : List Sn) (o : Option Sn) (e : Sn) (x' : Option Addr) (c' : Nat), pre.length ≤ 5 ∧ w.heap.size < wr.heap.size ∧ Hid (e = o.getD zeroS) ∧ Hid (∀ y, o = some y → y.name ≠ []) ∧ Hid (L = pre ++ lineS l (5 - pre.length) o) ∧ Hid (LN (w.heap.size + 1) w0 wr v pre) ∧ Hid (Box5 wr w.heap.size (.string (str e.name)) (.string (str e.parent)) (.int .i64 e.kind) (.bool e.lease) (.slice x' e.layer.length c')) ∧ Hid (RdE w0 x' e.layer) ∧ Hid (Below w.heap.size w wr)) (fun v _ => 6 - lenOfV v)
  case atStart => exact ⟨[], some s, s, x, cc, by simp, hs1, hide rfl, hide (fun y hy => by cases hy; exact HS.out), hide (by rw [HL.out]; rfl), hide (LN.nil _ _ _), X0, HX, B0⟩
  case round =>
    obtain ⟨pre, o, e, x', c', hp5, hsw, HE, HO, HLL, HLN, HBX, HRX, HW⟩ := hrel
    have hsz := HW.out.size
    have hszb := HB0.out.size
    obtain ⟨lv, lc, hv⟩ := HLN.out.shape
    subst hv
    obtain ⟨⟨t0, t1, t2, t3, t4⟩, tf⟩ := HBX.out
    cases o with
    | none =>
      have he : e = zeroS := HE.out
      subst he
      have HT := hide (show L = pre by rw [HLL.out, lineS_none, List.append_nil])
      go_wp2_with fail
      refine (isNone_yes _ _ _).mono ?_
      rintro r w1 ⟨rfl, hb1⟩
      have B1 := hide (below_next HW.out hb1)
      have L1 := hide (HLN.out.below hb1)
      clear hb1 t0 t1 t2 t3 t4 tf
      go_wp2_with fail
      go_ret
      rw [HT.out]
      exact ⟨lv, lc, rfl, L1.out.mono (by omega), B1.out⟩
    | some y =>
      have he : e = y := HE.out
      subst he
      have HNM := hide (HO.out e rfl)
      go_wp2_with fail
      refine (isNone_no e _ _ _ HNM.out).mono ?_
      rintro r w1 ⟨rfl, hb1⟩
      have B1 := hide (below_next HW.out hb1)
      have L1 := hide (HLN.out.below hb1)
      have X1 := hide (HBX.out.below hb1)
      have hs1 := hb1.size
      clear hb1 t0 t1 t2 t3 t4 tf HBX HLN
      by_cases h4 : pre.length ≤ 4
      · have h4' : (pre.length : Int) ≤ 4 := by omega
        have hm1 : pre.length + 1 ≤ maxLen := by unfold maxLen; omega
        have hm1' : (pre.length + 1) * 72 ≤ 140737488355328 := by omega
        have HLN2 := hide (show L = (pre ++ [e]) ++ lineS l (5 - (pre ++ [e]).length) (atS l e.parent) by
          rw [HLL.out, line_more h4, List.append_assoc, List.length_append]; rfl)
        obtain ⟨rs, g1, g2, g3⟩ := L1.out
        have G1 := hide g1
        have G2 := hide g2
        have G3 := hide g3
        clear g1 g2 g3
        obtain ⟨⟨t0, t1, t2, t3, t4⟩, tf⟩ := X1.out
        go_wp2_with (at_builtin; refine wpList_append_put rfl (.tmp 14) (.tmp 16) 24 rfl (w.heap.size + 1) 37 i1 (.agg #[.string ⟨#[]⟩, .string ⟨#[]⟩, .int .i64 0, .bool false, .slice none 0 0]) 5 72 Tryz.underlying24 ki kz0 kz1 kz2 rfl (by decide) _ _ _ rfl G2.out _ rfl rfl rfl (by intro u hu; simp at hu; rcases hu with rfl | rfl | rfl | rfl | rfl <;> rfl) hm1 hm1' (by omega) ?_; intro av6 cv6 w6 hown6 hk6; have O6 := hide hown6; have K6 := hide hk6; clear hown6 hk6; obtain ⟨⟨q0, q1, q2, q3, q4⟩, qf⟩ := (show Box5 w6 w.heap.size (.string (str e.name)) (.string (str e.parent)) (.int .i64 e.kind) (.bool e.lease) (.slice x' e.layer.length c') from ⟨X1.out.1.kept K6.out (fun hS => by have := (G2.out.lt _ hS).1; omega), fun i => (K6.out.frozen (p := ⟨w.heap.size, i, none⟩) X1.out.1.lt (fun hS => by have h9 : w.heap.size + 1 ≤ w.heap.size := (G2.out.lt _ hS).1; omega)).trans (X1.out.2 i)⟩))
        have BW6 : Hid (Below w.heap.size w w6) := hide (B1.out.trans (K6.out.below (B := w.heap.size) (by omega) (fun q hq hS => by have := (G2.out.lt q hS).1; omega)))
        have X6 : Hid (Box5 w6 w.heap.size (.string (str e.name)) (.string (str e.parent)) (.int .i64 e.kind) (.bool e.lease) (.slice x' e.layer.length c')) := hide ⟨⟨q0, q1, q2, q3, q4⟩, qf⟩
        have hs6 := K6.out.size
        refine (snapOf_any a c l.length l e.parent w0 w6 (HB0.out.trans ((BW6.out).mono (by omega))) HR.out rfl hl).mono ?_
        rintro r w7 ⟨⟨y, x7, c7, hy, rfl, hx7⟩, hb7⟩
        have HY := hide hy
        have HX7 := hide hx7
        have X7 := hide (X6.out.below hb7)
        obtain ⟨⟨p0, p1, p2, p3, p4⟩, pf⟩ := X7.out
        have pf0 := pf 0
        have pf1 := pf 1
        have pf2 := pf 2
        have pf3 := pf 3
        have pf4 := pf 4
        have O7 := hide (ownsRow_below O6.out hb7)
        have B7 := hide (below_next BW6.out hb7)
        have hs7 := hb7.size
        have HN7 := hide (show ∀ z, atS l e.parent = some z → z.name ≠ [] from fun z hz => HNE.out z (atS_some hz).1)
        clear hb7 hy hx7 pf q0 q1 q2 q3 q4 qf
        go_wp2_with fail
        go_roundw
        case rel =>
          refine ⟨pre ++ [e], atS l e.parent, y, x7, c7, by simp; omega, by simp [World.setCell]; omega, HY, HN7, HLN2, hide ?_, hide ?_, HX7, hide (Below.five B7.out (Nat.le_refl _) _ _ _ _ _)⟩
          · refine LN.push (s := e) (a := x') (c := c') G1.out rfl G3.out HRX.out ?_
            exact ownsRow_kept O7.out (Kept.five w7 w.heap.size _ _ _ _ _) (fun b hb e => by have := (O7.out.lt b hb).1; omega)
          · exact X7.out.set _ _ _ _ _
        case measure => simp [lenOfV]; omega
      · have hp : pre.length = 5 := by omega
        have h4' : ¬ (pre.length : Int) ≤ 4 := by omega
        have HT := hide (show L = pre by rw [HLL.out, hp]; simp [lineS])
        clear hp h4
        go_wp2_with fail
        go_ret
        rw [HT.out]
        exact ⟨lv, lc, rfl, L1.out.mono (by omega), B1.out⟩
end Go.Proofs.YteegkblkfdnfiaaGreat

namespace Go.Proofs.YteegkblkfdnfiaaGreat
open Go.RowKit Go.Maps
set_option linter.unusedVariables false
attribute [local go_sem ↓] Go.wp_at_zero Go.wp_at_succ

set_option maxRecDepth 100000 in
set_option maxHeartbeats 3200000 in
theorem standFault_any (a : Option Addr) (c n : Nat) (l : List Sn) (s : Sn) (x : Option Addr) (cc : Nat) (w : World) (h : RdS w a l) (hx : RdE w x s.layer) (hn : n = l.length) (hl : l.length ≤ 1048576) (hne : ∀ y ∈ l, y.name ≠ []) (hs : s.name ≠ []) :
    Calls Tryz.prog 42 #[.slice a n c, .agg #[.string (str s.name), .string (str s.parent), .int .i64 s.kind, .bool s.lease, .slice x s.layer.length cc]] w fun r w' => r = .returned (.int .i64 (standS l s)) ∧ Below w.heap.size w w' := by
  subst hn
  have HR := hide h
  have HX := hide hx
  have HNE := hide hne
  have HS := hide hs
  have hse := str_beq s.parent []
  have F5 := hide (Five.new w (.string (str s.name)) (.string (str s.parent)) (.int .i64 s.kind) (.bool s.lease) (.slice x s.layer.length cc) 37)
  have B0 := hide (below_alloc w (.cells #[.string (str s.name), .string (str s.parent), .int .i64 s.kind, .bool s.lease, .slice x s.layer.length cc] 37))
  have hstr : str [] = ⟨#[]⟩ := rfl
  rw [hstr] at hse
  clear h hx hne hs hstr
  by_cases hp : s.parent = []
  · have HD := hide (show standS l s = 0 by unfold standS; rw [if_pos hp])
    have hpe : (str s.parent).toList.isEmpty = true := by rw [hp, str_toList]; rfl
    clear hp hse
    go_enter Tryz.func42, Tryz.ntmps42
    go_wp2_with fail
    go_ret
    exact ⟨ret_int HD.out.symm, B0.out⟩
  · have hpe : (str s.parent).toList.isEmpty = false := by
      rw [str_toList]; cases hq : s.parent with | nil => exact absurd hq hp | cons _ _ => rfl
    have HP := hide hp
    clear hp hse
    go_enter Tryz.func42, Tryz.ntmps42
    go_wp2_with fail
    generalize hW0 : w.alloc (.cells #[.string (str s.name), .string (str s.parent), .int .i64 s.kind, .bool s.lease, .slice x s.layer.length cc] 37) = W0 at *
    clear hW0
    refine (snapOf_any a c l.length l s.parent w W0 B0.out HR.out rfl hl).mono ?_
    rintro r w1 ⟨⟨e, x1, c1, he, rfl, hx1⟩, hb1⟩
    have HE := hide he
    have B1 := hide (below_next B0.out hb1)
    have F51 := hide (F5.out.below (below_next hb1 (below_alloc w1 (.cells #[.string (str e.name), .string (str e.parent), .int .i64 e.kind, .bool e.lease, .slice x1 e.layer.length c1] 37))))
    have FE := hide (Five.new w1 (.string (str e.name)) (.string (str e.parent)) (.int .i64 e.kind) (.bool e.lease) (.slice x1 e.layer.length c1) 37)
    have B2 := hide (below_next B1.out (below_alloc w1 (.cells #[.string (str e.name), .string (str e.parent), .int .i64 e.kind, .bool e.lease, .slice x1 e.layer.length c1] 37)))
    clear hb1 he hx1
    cases ho : atS l s.parent with
    | none =>
      have he : e = zeroS := by have := HE.out; rw [ho] at this; exact this
      have HD := hide (show standS l s = 4 by unfold standS; rw [if_neg HP.out, ho])
      subst he
      clear ho
      go_wp2_with fail
      refine (isNone_yes _ _ _).mono ?_
      rintro r w2 ⟨rfl, hb2⟩
      have B3 := hide (below_next B2.out hb2)
      clear hb2
      go_wp2_with fail
      go_ret
      exact ⟨ret_int HD.out.symm, B3.out⟩
    | some y =>
      have he : e = y := by have := HE.out; rw [ho] at this; exact this
      subst he
      have HNM := hide (HNE.out e (atS_some ho).1)
      have HD := hide (show standS l s = if e.kind = 1 then 10 else if 4 < (lineS l 5 (some s)).length then 2 else 0 by unfold standS; rw [if_neg HP.out, ho])
      clear ho
      go_wp2_with fail
      generalize hW2 : w1.alloc (.cells #[.string (str e.name), .string (str e.parent), .int .i64 e.kind, .bool e.lease, .slice x1 e.layer.length c1] 37) = W2 at *
      clear hW2
      refine (isNone_no e _ _ _ HNM.out).mono ?_
      rintro r w3 ⟨rfl, hb3⟩
      have B3 := hide (below_next B2.out hb3)
      obtain ⟨g0, g1, g2, g3, g4⟩ := FE.out.below hb3
      obtain ⟨f0, f1, f2, f3, f4⟩ := F51.out.below hb3
      clear hb3
      by_cases hk : e.kind = 1
      · have hkb : (e.kind == 1) = true := by simp [hk]
        have HD2 := hide (show standS l s = 10 by rw [HD.out, if_pos hk])
        clear hk
        go_wp2_with fail
        go_ret
        exact ⟨ret_int HD2.out.symm, B3.out⟩
      · have hkb : (e.kind == 1) = false := by simp [hk]
        have HD2 := hide (show standS l s = if 4 < (lineS l 5 (some s)).length then 2 else 0 by rw [HD.out, if_neg hk])
        clear hk
        go_wp2_with fail
        refine (lineOf_any a c l.length l s x cc w w3 B3.out HR.out HX.out rfl hl HNE.out HS.out).mono ?_
        rintro r w4 ⟨av, cv, rfl, -, hb4⟩
        have B4 := hide (below_next B3.out hb4)
        have hL5 := lineS_len l 5 (some s)
        generalize (lineS l 5 (some s)).length = M at *
        clear hb4
        by_cases hm : 4 < M
        · have hm' : (4 : Int) < (M : Int) := by omega
          have HD3 := hide (show standS l s = 2 by rw [HD2.out, if_pos hm])
          clear hm
          go_wp2_with fail
          go_ret
          exact ⟨ret_int HD3.out.symm, B4.out⟩
        · have hm' : ¬ (4 : Int) < (M : Int) := by omega
          have HD3 := hide (show standS l s = 0 by rw [HD2.out, if_neg hm])
          clear hm
          go_wp2_with fail
          go_ret
          exact ⟨ret_int HD3.out.symm, B4.out⟩
def prevS (l : List Sn) : Nat → Option Sn
  | 0 => none
  | j + 1 => l[j]?
theorem headS_step {l : List Sn} {k : Nat} {s : Sn} {F : Int} (h : F = headS (prevS l k) (l.drop k)) (hs : l[k]? = some s) (h0 : oneS (prevS l k) s = 0) : F = headS (prevS l (k + 1)) (l.drop (k + 1)) := by
  rw [h, drop_at hs, headS, if_pos h0]
  show headS (some s) _ = headS l[k]? _
  rw [hs]
theorem headS_bad {l : List Sn} {k : Nat} {s : Sn} {F : Int} (h : F = headS (prevS l k) (l.drop k)) (hs : l[k]? = some s) (h0 : oneS (prevS l k) s ≠ 0) : F = oneS (prevS l k) s := by
  rw [h, drop_at hs, headS, if_neg h0]
theorem headS_end {l : List Sn} {k : Nat} {F : Int} (h : F = headS (prevS l k) (l.drop k)) (hk : l.length ≤ k) : F = 0 := by
  rw [h, List.drop_eq_nil_of_le hk, headS]
theorem standsS_step {l r : List Sn} {k : Nat} {s : Sn} {F : Int} (h : F = standsS l (r.drop k)) (hs : r[k]? = some s) (h0 : standS l s = 0) : F = standsS l (r.drop (k + 1)) := by
  rw [h, drop_at hs, standsS, if_pos h0]
theorem standsS_bad {l r : List Sn} {k : Nat} {s : Sn} {F : Int} (h : F = standsS l (r.drop k)) (hs : r[k]? = some s) (h0 : standS l s ≠ 0) : F = standS l s := by
  rw [h, drop_at hs, standsS, if_neg h0]
theorem standsS_end {l r : List Sn} {k : Nat} {F : Int} (h : F = standsS l (r.drop k)) (hk : r.length ≤ k) : F = 0 := by
  rw [h, List.drop_eq_nil_of_le hk, standsS]
end Go.Proofs.YteegkblkfdnfiaaGreat

namespace Go.Proofs.YteegkblkfdnfiaaGreat
open Go.RowKit Go.Maps
set_option linter.unusedVariables false
attribute [local go_sem ↓] Go.wp_at_zero Go.wp_at_succ

theorem oneS_name {p : Option Sn} {s : Sn} (h : nmOk s.name = false) : oneS p s = 5 := by unfold oneS; rw [h]; rfl
theorem oneS_form {p : Option Sn} {s : Sn} (h : nmOk s.name = true) (h2 : ((s.kind == 1 || s.kind == 2) && !lwQ p s) = false) : oneS p s = 1 := by unfold oneS; rw [h, h2]; rfl
theorem oneS_lay {p : Option Sn} {s : Sn} (h : nmOk s.name = true) (hk : (s.kind == 1 || s.kind == 2) = true) (hl : lwQ p s = false) : oneS p s = layFaultP s.layer := by unfold oneS; rw [h, hk, hl]; rfl
set_option maxRecDepth 100000 in
set_option maxHeartbeats 6400000 in
theorem implSnapsFault_any (a : Option Addr) (c n : Nat) (l : List Sn) (w : World) (h : RdS w a l) (hn : n = l.length) (hl : l.length ≤ 1048576) (hs : SmallS l) :
    Calls Tryz.prog 10 #[.slice a n c] w fun r w' => r = .returned (.int .i64 (snF l)) ∧ Below w.heap.size w w' := by
  subst hn
  obtain ⟨F, hF⟩ : ∃ F : Int, F = snF l := ⟨_, rfl⟩
  rw [← hF]
  by_cases hm : 10 < l.length
  · have HE := hide (show F = 2 by rw [hF]; unfold snF; rw [if_pos hm])
    have hm' : (10 : Int) < (l.length : Int) := by omega
    clear hF hm h hs
    go_enter Tryz.func10, Tryz.ntmps10
    go_wp2_with fail
    go_ret
    exact ⟨ret_int HE.out.symm, Below.refl _ _⟩
  obtain ⟨H, hH⟩ : ∃ H : Int, H = headS none l := ⟨_, rfl⟩
  have HF := hide (show F = if H = 0 then standsS l l else H by rw [hF, hH]; unfold snF; rw [if_neg hm])
  have HH := hide (show H = headS (prevS l 0) (l.drop 0) by rw [hH]; rfl)
  have HNM := hide (show H = 0 → ∀ s ∈ l, s.name ≠ [] from fun h0 s hs => nmOk_ne ((headS_zero.1 (hH ▸ h0)).1 s hs).1)
  have HR := hide h
  have HS := hide hs
  have hm' : ¬ (10 : Int) < (l.length : Int) := by omega
  clear hF hH hm h hs
  go_enter Tryz.func10, Tryz.ntmps10
  go_wp2_with fail
  go_loopw [14] (fun i wr => ∃ k : Nat, k ≤ l.length ∧ i = .int .i64 k ∧ Hid (H = headS (prevS l k) (l.drop k)) ∧ Hid (Below w.heap.size w wr)) (fun i _ => l.length - (intOf i).toNat)
  case atStart => exact ⟨0, Nat.zero_le _, rfl, HH, hide (Below.refl _ _)⟩
  case round =>
    obtain ⟨k, hk, rfl, HK, HW⟩ := hrel
    by_cases hlt : k < l.length
    · obtain ⟨b, off, s, x, cc, rfl, hb, hsl, c0, c1, c2, c3, c4, hr⟩ := (HR.out.below HW.out).at hlt
      have HX := hide hsl
      have hsm := HS.out.2 s (List.mem_of_getElem? hsl)
      have HSM := hide hsm.2.2.2
      have BA := hide (below_alloc wr (.cells #[.string (str s.name), .string (str s.parent), .int .i64 s.kind, .bool s.lease, .slice x s.layer.length cc] 37))
      have F5 := hide (Five.new wr (.string (str s.name)) (.string (str s.parent)) (.int .i64 s.kind) (.bool s.lease) (.slice x s.layer.length cc) 37)
      have HRL := hide (hr.below BA.out)
      have HW1 := hide (below_next HW.out BA.out)
      have hl1 := hsm.1
      have hl2 := hsm.2.2.1
      clear hsl hr hsm
      go_wp2_with fail
      clear c0 c1 c2 c3 c4 BA
      generalize hW1 : wr.alloc (.cells #[.string (str s.name), .string (str s.parent), .int .i64 s.kind, .bool s.lease, .slice x s.layer.length cc] 37) = W1 at *
      generalize hB1 : wr.heap.size = b1 at *
      clear hW1 hB1
      refine (isSnapName_any s.name _ hl1).mono ?_
      rintro r w1 ⟨rfl, rfl⟩
      obtain ⟨f0, f1, f2, f3, f4⟩ := F5.out
      cases hnm : nmOk s.name
      · have HO := hide (headS_bad HK.out HX.out (by rw [oneS_name hnm]; decide))
        have HO2 := hide (show F = 5 by rw [HF.out, HO.out, oneS_name hnm]; rfl)
        clear hnm
        go_wp2_with fail
        go_ret
        exact ⟨ret_int HO2.out.symm, HW1.out⟩
      · have HNK := hide hnm
        have HKD := hide (fun u => isSnapKind_any s.kind u)
        cases hkd : (s.kind == 1 || s.kind == 2)
        · have H1 := hide (oneS_form (p := prevS l k) HNK.out (by rw [hkd]; rfl))
          have HO := hide (headS_bad HK.out HX.out (by rw [H1.out]; decide))
          have HO2 := hide (show F = 1 by rw [HF.out, HO.out, H1.out]; rfl)
          rw [hkd] at HKD
          clear hnm hkd
          go_wp2_with fail
          go_quiet ((go_at_call 40; exact Calls.quiet_of ((HKD.out _).mono (fun e w' ⟨he, hw⟩ => ⟨he, 0, hw⟩))))
          go_wp2_with fail
          go_ret
          exact ⟨ret_int HO2.out.symm, below_drewN HW1.out _⟩
        · have HKK := hide hkd
          rw [hkd] at HKD
          clear hnm hkd
          have step : ∀ (nq : Nat), lwQ (prevS l k) s = false → True := fun _ _ => trivial
          cases k with
          | zero =>
            have HL := hide (show lwQ (prevS l 0) s = false from rfl)
            go_wp2_with fail
            go_quiet ((go_at_call 40; exact Calls.quiet_of ((HKD.out _).mono (fun e w' ⟨he, hw⟩ => ⟨he, 0, hw⟩))))
            have HW2 := hide (below_drewN HW1.out nq)
            have HRL2 := hide (HRL.out.below (below_drewN (Below.refl _ _) nq))
            obtain ⟨g0, g1, g2, g3, g4⟩ := F5.out.below (below_drewN (Below.refl _ _) nq)
            clear f0 f1 f2 f3 f4
            generalize World.drewN _ nq = W at *
            go_wp2_with fail
            refine (implLayerFault_any x cc s.layer.length s.layer W HRL2.out rfl hl2 HSM.out).mono ?_
            rintro r w4 ⟨rfl, hb4⟩
            have HW3 := hide (below_next HW2.out hb4)
            have H1 := hide (oneS_lay HNK.out HKK.out HL.out)
            clear hb4
            by_cases hz : layFaultP s.layer = 0
            · have HO := hide (headS_step HK.out HX.out (by rw [H1.out, hz]))
              rw [hz]
              clear hz
              go_wp2_with fail
              go_roundw
              case rel => exact ⟨1, by omega, by go_num, HO, HW3⟩
              case measure => simp [intOf]; omega
            · have HO := hide (headS_bad HK.out HX.out (by rw [H1.out]; exact hz))
              have HO2 := hide (show F = layFaultP s.layer by rw [HF.out, HO.out, H1.out, if_neg hz])
              have hz2 : (layFaultP s.layer != 0) = true := by simp; exact hz
              clear hz
              go_wp2_with fail
              go_ret
              exact ⟨ret_int HO2.out.symm, HW3.out⟩
          | succ j =>
            have hg : (0 : Int) < ((j + 1 : Nat) : Int) := by omega
            obtain ⟨b2, off2, s2, x2, cc2, hbb, hb2, hs2, d0, d1, d2, d3, d4, hr2⟩ := (HR.out.below HW1.out).at (show j < l.length by omega)
            simp only [Option.some.injEq, Addr.mk.injEq, and_true] at hbb
            obtain ⟨rfl, rfl⟩ := hbb
            have HL := hide (show lwQ (prevS l (j + 1)) s = (Op.bytesLess s.name s2.name || (s.name == s2.name)) from by simp [prevS, lwQ, hs2])
            clear hs2 d1 d2 d3 d4 hr2
            cases hlow : (Op.bytesLess (str s.name).toList (str s2.name).toList || ((str s.name).toList == (str s2.name).toList))
            · have HL2 := hide (show lwQ (prevS l (j + 1)) s = false from by rw [HL.out]; rw [str_toList, str_toList] at hlow; exact hlow)
              go_wp2_with fail
              go_quiet ((go_at_call 40; exact Calls.quiet_of ((HKD.out _).mono (fun e w' ⟨he, hw⟩ => ⟨he, 0, hw⟩))))
              have HW2 := hide (below_drewN HW1.out nq)
              have HRL2 := hide (HRL.out.below (below_drewN (Below.refl _ _) nq))
              obtain ⟨g0, g1, g2, g3, g4⟩ := F5.out.below (below_drewN (Below.refl _ _) nq)
              clear f0 f1 f2 f3 f4 d0
              generalize World.drewN _ nq = W at *
              go_wp2_with fail
              refine (implLayerFault_any x cc s.layer.length s.layer W HRL2.out rfl hl2 HSM.out).mono ?_
              rintro r w4 ⟨rfl, hb4⟩
              have HW3 := hide (below_next HW2.out hb4)
              have H1 := hide (oneS_lay HNK.out HKK.out HL2.out)
              clear hb4
              by_cases hz : layFaultP s.layer = 0
              · have HO := hide (headS_step HK.out HX.out (by rw [H1.out, hz]))
                rw [hz]
                clear hz
                go_wp2_with fail
                go_roundw
                case rel => exact ⟨j + 1 + 1, by omega, by go_num, HO, HW3⟩
                case measure => simp [intOf]; omega
              · have HO := hide (headS_bad HK.out HX.out (by rw [H1.out]; exact hz))
                have HO2 := hide (show F = layFaultP s.layer by rw [HF.out, HO.out, H1.out, if_neg hz])
                have hz2 : (layFaultP s.layer != 0) = true := by simp; exact hz
                clear hz
                go_wp2_with fail
                go_ret
                exact ⟨ret_int HO2.out.symm, HW3.out⟩
            · have HL2 := hide (show lwQ (prevS l (j + 1)) s = true from by rw [HL.out]; rw [str_toList, str_toList] at hlow; exact hlow)
              have H1 := hide (oneS_form (p := prevS l (j + 1)) HNK.out (by rw [HL2.out, Bool.not_true, Bool.and_false]))
              have HO := hide (headS_bad HK.out HX.out (by rw [H1.out]; decide))
              have HO2 := hide (show F = 1 by rw [HF.out, HO.out, H1.out]; rfl)
              go_wp2_with fail
              go_quiet ((go_at_call 40; exact Calls.quiet_of ((HKD.out _).mono (fun e w' ⟨he, hw⟩ => ⟨he, 0, hw⟩))))
              go_wp2_with fail
              go_ret
              exact ⟨ret_int HO2.out.symm, below_drewN HW1.out _⟩
    · have h0 := headS_end HK.out (by omega)
      have HNE := hide (HNM.out h0)
      have HFS := hide (show F = standsS l (l.drop 0) by rw [HF.out, if_pos h0]; rfl)
      clear h0 HK HNM HF HH
      have hke : k = l.length := by omega
      clear hlt hk
      subst hke
      go_wp2_with fail
      go_loopw [51] (fun i wr => ∃ k : Nat, k ≤ l.length ∧ i = .int .i64 k ∧ Hid (F = standsS l (l.drop k)) ∧ Hid (Below w.heap.size w wr)) (fun i _ => l.length - (intOf i).toNat)
      case atStart => exact ⟨0, Nat.zero_le _, rfl, HFS, HW⟩
      case round =>
        clear HW
        rename_i wr2
        obtain ⟨k, hk, rfl, HK, HW⟩ := hrel
        by_cases hlt : k < l.length
        · obtain ⟨b, off, s, x, cc, rfl, hb, hsl, c0, c1, c2, c3, c4, hr⟩ := (HR.out.below HW.out).at hlt
          have HX := hide hsl
          have HNS := hide (HNE.out s (List.mem_of_getElem? hsl))
          have BA := hide (below_alloc wr (.cells #[.string (str s.name), .string (str s.parent), .int .i64 s.kind, .bool s.lease, .slice x s.layer.length cc] 37))
          have HRL := hide (hr.below BA.out)
          have HW1 := hide (below_next HW.out BA.out)
          clear hsl hr
          go_wp2_with fail
          clear c0 c1 c2 c3 c4 BA
          generalize hW1 : wr.alloc (.cells #[.string (str s.name), .string (str s.parent), .int .i64 s.kind, .bool s.lease, .slice x s.layer.length cc] 37) = W1 at *
          clear hW1
          refine (standFault_any _ c l.length l s x cc W1 (HR.out.below HW1.out) HRL.out rfl hl HNE.out HNS.out).mono ?_
          rintro r w4 ⟨rfl, hb4⟩
          have HW3 := hide (below_next HW1.out hb4)
          clear hb4
          by_cases hz : standS l s = 0
          · have HO := hide (standsS_step HK.out HX.out hz)
            rw [hz]
            clear hz
            go_wp2_with fail
            go_roundw
            case rel => exact ⟨k + 1, by omega, by go_num, HO, HW3⟩
            case measure => simp [intOf]; omega
          · have HO := hide (standsS_bad HK.out HX.out hz)
            have hz2 : (standS l s != 0) = true := by simp; exact hz
            clear hz
            go_wp2_with fail
            go_ret
            exact ⟨ret_int HO.out.symm, HW3.out⟩
        · have HO := hide (standsS_end HK.out (by omega))
          go_wp2_with fail
          go_ret
          exact ⟨ret_int HO.out.symm, HW.out⟩
end Go.Proofs.YteegkblkfdnfiaaGreat

