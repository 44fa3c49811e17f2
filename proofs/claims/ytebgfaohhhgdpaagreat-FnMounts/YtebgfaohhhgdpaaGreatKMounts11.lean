/-
  Texts put together: LayT IteR IteV SeeQ SeeR OvrP TreB TreM.
-/
import Derived.Shelf.SlSortCmp.WholeK
import Derived.Shelf.Small.Bits
import Derived.Ground.SlsfProg
import Derived.Test.YtebgfaohhhgdpaaGreatProg
import Derived.Test.YtebgfaohhhgdpaaGreatKMounts6
import Derived.Test.YtebgfaohhhgdpaaGreatKMounts7
import Derived.Test.YtebgfaohhhgdpaaGreatKMounts10
import Derived.Test.YtebgfaohhhgdpaaGreatKMounts9
import Derived.Test.YtebgfaohhhgdpaaGreatKMounts8
import Derived.Test.YtebgfaohhhgdpaaGreatKMounts4
import Derived.Shelf.Abstract
import Derived.Test.YtebgfaohhhgdpaaGreatKMounts2
import Derived.Test.YtebgfaohhhgdpaaGreatKMounts1
namespace Go.Proofs.YtebgfaohhhgdpaaGreat
open Go.RowKit Go.Sort Go.Shelf
set_option linter.unusedVariables false
def Tryz.pdqT_ren : Go.Shelf.Ren := ⟨fun | 14 => 151 | 20 => 184 | 21 => 185 | 22 => 186 | 23 => 187 | 24 => 188 | 25 => 189 | 26 => 190 | 27 => 191 | 46 => 210 | 47 => 211 | 48 => 212 | 49 => 213 | 50 => 214 | 15 => 152 | 57 => 218 | 28 => 192 | 29 => 193 | n => n, fun | 24 => 66 | 22 => 57 | 3 => 3 | 25 => 117 | 4 => 4 | 0 => 0 | 46 => 186 | 45 => 185 | 50 => 190 | 66 => 203 | 39 => 159 | 55 => 194 | 70 => 207 | 76 => 210 | 77 => 211 | 53 => 171 | 5 => 5 | 9 => 9 | n => n, fun | n => n⟩
theorem Tryz.pdqT : Go.Proofs.SlLaysF0.n14 Tryz.prog Tryz.pdqT_ren := {
  mixed := by kernel_rfl
  f14 := ⟨Tryz.f151.name, by decide, Tryz.func151.trans (congrArg some (by kernel_rfl))⟩
  f15 := Tryz.func152.trans (congrArg some (by kernel_rfl))
  f20 := ⟨Tryz.f184.name, by decide, Tryz.func184.trans (congrArg some (by kernel_rfl))⟩
  f21 := ⟨Tryz.f185.name, by decide, Tryz.func185.trans (congrArg some (by kernel_rfl))⟩
  f22 := ⟨Tryz.f186.name, by decide, Tryz.func186.trans (congrArg some (by kernel_rfl))⟩
  f23 := ⟨Tryz.f187.name, by decide, Tryz.func187.trans (congrArg some (by kernel_rfl))⟩
  f24 := ⟨Tryz.f188.name, by decide, Tryz.func188.trans (congrArg some (by kernel_rfl))⟩
  f25 := ⟨Tryz.f189.name, by decide, Tryz.func189.trans (congrArg some (by kernel_rfl))⟩
  f26 := ⟨Tryz.f190.name, by decide, Tryz.func190.trans (congrArg some (by kernel_rfl))⟩
  f27 := ⟨Tryz.f191.name, by decide, Tryz.func191.trans (congrArg some (by kernel_rfl))⟩
  f28 := Tryz.func192.trans (congrArg some (by kernel_rfl))
  f29 := Tryz.func193.trans (congrArg some (by kernel_rfl))
  f46 := ⟨Tryz.f210.name, by decide, Tryz.func210.trans (congrArg some (by kernel_rfl))⟩
  f47 := Tryz.func211.trans (congrArg some (by kernel_rfl))
  f48 := Tryz.func212.trans (congrArg some (by kernel_rfl))
  f49 := ⟨Tryz.f213.name, by decide, Tryz.func213.trans (congrArg some (by kernel_rfl))⟩
  f50 := ⟨Tryz.f214.name, by decide, Tryz.func214.trans (congrArg some (by kernel_rfl))⟩
  f57 := ⟨Tryz.f218.name, by decide, Tryz.func218.trans (congrArg some (by kernel_rfl))⟩
  t0 := Tryz.underlying0
  a0 := Tryz.isAgg0
  z0 := Tryz.sizeOf0
  v0 := Tryz.zeroValue0
  t3 := Tryz.underlying3
  a3 := Tryz.isAgg3
  z3 := Tryz.sizeOf3
  v3 := Tryz.zeroValue3
  t4 := Tryz.underlying4
  a4 := Tryz.isAgg4
  z4 := Tryz.sizeOf4
  v4 := Tryz.zeroValue4
  t5 := Tryz.underlying5
  a5 := Tryz.isAgg5
  z5 := Tryz.sizeOf5
  v5 := Tryz.zeroValue5
  t9 := Tryz.underlying9
  a9 := Tryz.isAgg9
  z9 := Tryz.sizeOf9
  v9 := Tryz.zeroValue9
  t22 := Tryz.underlying57
  a22 := Tryz.isAgg57
  z22 := Tryz.sizeOf57
  v22 := Tryz.zeroValue57
  t25 := Tryz.underlying117
  a25 := Tryz.isAgg117
  z25 := Tryz.sizeOf117
  v25 := Tryz.zeroValue117
  t39 := Tryz.underlying159
  a39 := Tryz.isAgg159
  z39 := Tryz.sizeOf159
  v39 := Tryz.zeroValue159
  t45 := Tryz.underlying185
  a45 := Tryz.isAgg185
  z45 := Tryz.sizeOf185
  v45 := Tryz.zeroValue185
  t46 := Tryz.underlying186
  a46 := Tryz.isAgg186
  z46 := Tryz.sizeOf186
  v46 := Tryz.zeroValue186
  t50 := Tryz.underlying190
  a50 := Tryz.isAgg190
  z50 := Tryz.sizeOf190
  v50 := Tryz.zeroValue190
  t53 := Tryz.underlying171
  a53 := Tryz.isAgg171
  z53 := Tryz.sizeOf171
  v53 := Tryz.zeroValue171
  t55 := Tryz.underlying194
  a55 := Tryz.isAgg194
  z55 := Tryz.sizeOf194
  v55 := Tryz.zeroValue194
  t66 := Tryz.underlying203
  a66 := Tryz.isAgg203
  z66 := Tryz.sizeOf203
  v66 := Tryz.zeroValue203
  t70 := Tryz.underlying207
  a70 := Tryz.isAgg207
  z70 := Tryz.sizeOf207
  v70 := Tryz.zeroValue207
  t76 := Tryz.underlying210
  a76 := Tryz.isAgg210
  z76 := Tryz.sizeOf210
  v76 := Tryz.zeroValue210
  t77 := Tryz.underlying211
  a77 := Tryz.isAgg211
  z77 := Tryz.sizeOf211
  v77 := Tryz.zeroValue211 }
def Tryz.lenT_ren : Go.Shelf.Ren := ⟨fun | 125 => 152 | 128 => 192 | 129 => 193 | n => n, fun | 46 => 159 | 3 => 3 | 51 => 171 | 53 => 194 | 4 => 4 | 5 => 5 | 9 => 9 | n => n, fun | n => n⟩
theorem Tryz.lenT : Go.Proofs.Lays.n125 Tryz.prog Tryz.lenT_ren := {
  mixed := by kernel_rfl
  f125 := Tryz.func152.trans (congrArg some (by kernel_rfl))
  f128 := Tryz.func192.trans (congrArg some (by kernel_rfl))
  f129 := Tryz.func193.trans (congrArg some (by kernel_rfl))
  t3 := Tryz.underlying3
  a3 := Tryz.isAgg3
  z3 := Tryz.sizeOf3
  v3 := Tryz.zeroValue3
  t4 := Tryz.underlying4
  a4 := Tryz.isAgg4
  z4 := Tryz.sizeOf4
  v4 := Tryz.zeroValue4
  t5 := Tryz.underlying5
  a5 := Tryz.isAgg5
  z5 := Tryz.sizeOf5
  v5 := Tryz.zeroValue5
  t9 := Tryz.underlying9
  a9 := Tryz.isAgg9
  z9 := Tryz.sizeOf9
  v9 := Tryz.zeroValue9
  t46 := Tryz.underlying159
  a46 := Tryz.isAgg159
  z46 := Tryz.sizeOf159
  v46 := Tryz.zeroValue159
  t51 := Tryz.underlying171
  a51 := Tryz.isAgg171
  z51 := Tryz.sizeOf171
  v51 := Tryz.zeroValue171
  t53 := Tryz.underlying194
  a53 := Tryz.isAgg194
  z53 := Tryz.sizeOf194
  v53 := Tryz.zeroValue194 }
end Go.Proofs.YtebgfaohhhgdpaaGreat

namespace Go.Proofs.YtebgfaohhhgdpaaGreat
open Go.RowKit Go.Sort
set_option linter.unusedVariables false

def cmpB (a b : Bs) : Int := if Op.bytesLess a b then -1 else if Op.bytesLess b a then 1 else 0
theorem cmpB_lt (a b : Bs) : decide (cmpB a b < 0) = Op.bytesLess a b := by
  unfold cmpB
  cases h : Op.bytesLess a b
  · cases h2 : Op.bytesLess b a <;> rfl
  · rfl

theorem isNaN_any (s : ByteArray) (w : World) : Calls Tryz.prog 194 #[.string s] w fun e w' => e = .returned (.bool false) ∧ w' = w := by
  go_enter Tryz.func194, Tryz.ntmps194
  go_wp2
  go_ret
  exact ⟨by simp, rfl⟩
set_option maxHeartbeats 800000 in
theorem compare_any (p q : Bs) (w : World) : Calls Tryz.prog 153 #[.string (str p), .string (str q)] w fun e w' => e = .returned (.int .i64 (cmpB p q)) ∧ w' = w := by
  obtain ⟨F, hF⟩ : ∃ F : Int, F = cmpB p q := ⟨_, rfl⟩
  rw [← hF]
  cases h1 : Op.bytesLess (str p).toList (str q).toList
  · by_cases hpq : p = q
    · have hs1 := str_yes hpq
      have HE := hide (show F = 0 from by rw [hF, cmpB, hpq, bl_irrefl]; rfl)
      clear hF hpq
      go_enter Tryz.func153, Tryz.ntmps153
      go_wp2_with (go_at_call 194; refine (isNaN_any _ _).mono ?_; rintro e w' ⟨rfl, rfl⟩)
      go_ret
      exact ⟨ret_int HE.out.symm, rfl⟩
    · have hs1 := str_no hpq
      have HE := hide (show F = 1 from by
        rw [str_toList, str_toList] at h1
        rw [hF, cmpB, h1, bl_total _ _ h1 hpq]; rfl)
      clear hF hpq
      go_enter Tryz.func153, Tryz.ntmps153
      go_wp2_with (go_at_call 194; refine (isNaN_any _ _).mono ?_; rintro e w' ⟨rfl, rfl⟩)
      go_ret
      exact ⟨ret_int HE.out.symm, rfl⟩
  · have HE := hide (show F = -1 from by rw [hF, cmpB]; rw [str_toList, str_toList] at h1; rw [h1]; rfl)
    clear hF
    go_enter Tryz.func153, Tryz.ntmps153
    go_wp2_with (go_at_call 194; refine (isNaN_any _ _).mono ?_; rintro e w' ⟨rfl, rfl⟩)
    go_ret
    exact ⟨ret_int HE.out.symm, rfl⟩
set_option maxHeartbeats 800000 in
theorem sortLit_any (x y : Rw) (W : World) : Calls Tryz.prog 101 #[.agg (cellsI x).toArray, .agg (cellsI y).toArray] W fun e w' => e = .returned (.int .i64 (cmpB x.e.path y.e.path)) ∧ ∃ q os', w' = grow (W.drewN q) os' := by
  have hcon := fun W' => compare_any x.e.path y.e.path W'
  generalize cmpB x.e.path y.e.path = r at hcon ⊢
  show Calls Tryz.prog 101 #[.agg #[.int .i64 x.e.size, .slice x.a x.e.chunks.length x.c, .string (str x.e.path), .int .i64 x.e.kind], .agg #[.int .i64 y.e.size, .slice y.a y.e.chunks.length y.c, .string (str y.e.path), .int .i64 y.e.kind]] W _
  go_enter Tryz.func101, Tryz.ntmps101
  go_wp2_with (go_at_call 153; refine (hcon _).mono ?_; rintro e w' ⟨rfl, rfl⟩)
  go_ret
  exact ⟨rfl, 0, _, by rw [alloc_eq_grow, alloc_eq_grow, grow_grow]; rfl⟩

theorem rise_unique : ∀ {l1 l2 : List Rw}, l1.Perm l2 → l1.Pairwise (fun x y => Op.bytesLess x.e.path y.e.path = true) → l2.Pairwise (fun x y => Op.bytesLess x.e.path y.e.path = true) → l1 = l2
  | [], l2, hp, _, _ => hp.symm.eq_nil.symm
  | a :: l1, [], hp, _, _ => by have := hp.length_eq; simp at this
  | a :: l1, b :: l2, hp, h1, h2 => by
    have p1 := List.pairwise_cons.1 h1
    have p2 := List.pairwise_cons.1 h2
    have hab : a = b := by
      have ha : a ∈ b :: l2 := hp.subset List.mem_cons_self
      have hb : b ∈ a :: l1 := hp.symm.subset List.mem_cons_self
      rcases List.mem_cons.1 ha with h | ha
      · exact h
      · rcases List.mem_cons.1 hb with h | hb
        · exact h.symm
        · have q1 := p2.1 a ha
          have q2 := p1.1 b hb
          rw [bl_asymm q1] at q2
          cases q2
    subst hab
    rw [rise_unique (List.Perm.cons_inv hp) p1.2 p2.2]

theorem swo_path : SWO (ltOf fun x y : Rw => cmpB x.e.path y.e.path) := by
  have e : ∀ x y : Rw, ltOf (fun x y : Rw => cmpB x.e.path y.e.path) x y = Op.bytesLess x.e.path y.e.path := fun x y => cmpB_lt _ _
  refine ⟨fun x => by rw [e, bl_irrefl], fun x y z => by rw [e, e, e]; exact bl_trans _ _ _, fun x y z => ?_⟩
  rw [e, e, e]
  intro h1 h2
  cases h3 : Op.bytesLess x.e.path z.e.path
  · rfl
  · by_cases h4 : y.e.path = z.e.path
    · rw [h4] at h1; rw [h1] at h3; cases h3
    · have := bl_trans _ _ _ h3 (bl_total _ _ h2 h4)
      rw [h1] at this; cases this

end Go.Proofs.YtebgfaohhhgdpaaGreat

namespace Go.Proofs.YtebgfaohhhgdpaaGreat
open Go.RowKit Go.Sort Go.Shelf
set_option linter.unusedVariables false

set_option maxRecDepth 100000 in
set_option maxHeartbeats 1600000 in
theorem sortSlice_any (B g n c : Nat) (rs ss : List Rw) (w : World) (h : w.ownsRow B 66 4 (.slice (some ⟨g, 0, none⟩) n c) n (rowI rs)) (hn : n = rs.length) (h12 : n ≤ 1048577) (hp : ss.Perm rs) (hs : ss.Pairwise (fun x y => Op.bytesLess x.e.path y.e.path = true)) :
    Calls Tryz.prog 171 #[.slice (some ⟨g, 0, none⟩) n c, .func (.func 101) #[] #[]] w fun e w' => e = .returned (.tuple #[]) ∧ (∀ i q r, ss[i]? = some r → q < 4 → w'.cell? ⟨g, i * 4 + q, none⟩ = (cellsI r)[q]?) ∧ Kept (fun b => b = g) w w' := by
  subst hn
  haveI : Inhabited Rw := ⟨⟨⟨[], 0, 0, []⟩, none, 0⟩⟩
  have hg := (h.lt g rfl).2
  have hH : HoldsK cellsI 4 w g 0 rs.toArray := by
    intro j hj
    rw [size_flatK] at hj
    have hj4 : j < rs.length * 4 := by simpa using hj
    have h1 : j / 4 < rs.length := by omega
    obtain ⟨r, hr⟩ : ∃ r, rs[j / 4]? = some r := ⟨_, List.getElem?_eq_getElem h1⟩
    have hc := (h.cellAt (j / 4 * 4 + j % 4) (by omega)).trans (rowI_get rs (j / 4) (j % 4) _ hr (by omega))
    rw [show j / 4 * 4 + j % 4 = j by omega] at hc
    refine ⟨?_, h.frozenAt _⟩
    rw [Nat.zero_add, hc, get_flatK _ _ _ _ hj]
    have e1 : rs.toArray[j / 4]! = r := by
      have := List.getElem?_eq_some_iff.1 hr
      simp [h1, this.2]
    rw [e1]
    have hl : j % 4 < (cellsI r).length := by show j % 4 < 4; omega
    simp only [id]
    rw [List.getElem?_eq_getElem hl, getElem!_pos (cellsI r) (j % 4) hl]
  have eg : ∀ args w, (callFunc 101 args).run Tryz.prog w = .ok (.enter 101 args) w := enters_of Tryz.func101 (by kernel_rfl) rfl
  have hsz : rs.toArray.size < 4611686018427387904 := by have h2 := h12; simpa using (by omega : rs.length < 4611686018427387904)
  have hlim : Lib.bitLen rs.length < 4611686018427387904 := Nat.lt_of_le_of_lt (Lib.bitLen_le rs.length 62 (by omega) (by omega)) (by omega)
  have hpd := AnyQ.pdqsortCmpFunc_all Tryz.pdqT 4 Tryz.isAgg66 Tryz.sizeOf66 cellsI (fun x y => cmpB x.e.path y.e.path) 101 #[] swo_path g 0 c rs.toArray w eg (fun _ _ _ _ x y => sortLit_any x y _) ⟨fun _ => rfl, fun x v hv => rowI_one [x] v (by simpa [rowI] using hv), hH, hg⟩ (rs.toArray.size + 1) 0 rs.toArray.size (Lib.bitLen rs.length) rs.toArray w (by omega) rfl (SWK.start hH) (Nat.zero_le _) (Nat.le_refl _) hsz hlim (Or.inl rfl)
  have hps := pdq_sorts (ltOf fun x y : Rw => cmpB x.e.path y.e.path) swo_path rs.toArray 0 rs.toArray.size (Lib.bitLen rs.length) true true (Nat.zero_le _) (Nat.le_refl _) (Or.inl rfl)
  have hcon : Calls Tryz.prog 171 #[.slice (some ⟨g, 0, none⟩) rs.length c, .func (.func 101) #[] #[]] w fun e w' => e = .returned (.tuple #[]) ∧ ∃ d' n os, PermIn 0 rs.toArray.size rs.toArray d' ∧ SortedIn (ltOf fun x y : Rw => cmpB x.e.path y.e.path) 0 rs.toArray.size d' ∧ w' = sortWorldK cellsI 4 w g 0 n d' os := by
    have HP : Hid (Calls Tryz.prog 151 #[.slice (some ⟨g, 0, none⟩) rs.length c, .int .i64 0, .int .i64 rs.length, .int .i64 (Lib.bitLen rs.length : Nat), .func (.func 101) #[] #[]] w fun e w' => e = .returned (.tuple #[]) ∧ ∃ d' n os, PermIn 0 rs.toArray.size rs.toArray d' ∧ SortedIn (ltOf fun x y : Rw => cmpB x.e.path y.e.path) 0 rs.toArray.size d' ∧ w' = sortWorldK cellsI 4 w g 0 n d' os) := hide (by
      have h2 := hpd
      simp only [List.size_toArray] at h2
      refine (show Calls Tryz.prog 151 _ w _ from h2).mono ?_
      rintro e w' ⟨he, n, os, hw⟩
      exact ⟨he, _, n, os, by simpa using hps.1, by simpa using hps.2, hw⟩)
    have HL : Hid (Calls Tryz.prog 152 #[.int .u64 (rs.length : Int)] w fun e w' => e = .returned (.int .i64 (Lib.bitLen rs.length : Nat)) ∧ w' = w) := hide (by
      have h3 := Any.bits_Len Tryz.lenT (rs.length : Int) w (by omega) (by omega)
      rw [Int.toNat_natCast] at h3
      exact h3)
    have wr : IntKind.u64.wrap (rs.length : Int) = rs.length := by simp [IntKind.wrap, IntKind.bits, IntKind.signed]; omega
    clear hpd hps hH hlim hsz
    go_enter Tryz.func171, Tryz.ntmps171
    go_wp2_with fail
    refine HL.out.mono ?_
    rintro e w ⟨rfl, rfl⟩
    go_wp2_with fail
    refine HP.out.mono ?_
    rintro e w' ⟨rfl, hrest⟩
    have HRS := hide hrest
    clear hrest
    go_wp2_with fail
    first | go_end0 | skip
    exact ⟨rfl, HRS.out⟩
  refine (show Calls Tryz.prog 171 #[.slice (some ⟨g, 0, none⟩) rs.length c, .func (.func 101) #[] #[]] w _ from hcon).mono ?_
  rintro e w' ⟨he, d', m, os, hperm, hsort, rfl⟩
  obtain ⟨hsz, _, hpm⟩ := hperm
  have hsz' : d'.size = rs.length := by simpa using hsz
  have hpm' : d'.toList.Perm rs := by
    have e1 : (d'.extract 0 rs.toArray.size).toList = d'.toList := by simp [← hsz']
    have e2 : (rs.toArray.extract 0 rs.toArray.size).toList = rs := by simp
    rw [e1, e2] at hpm
    exact hpm
  have hnd : ss.Pairwise (fun x y => x.e.path ≠ y.e.path) := hs.imp (fun h => bl_ne h)
  have hnd' : d'.toList.Pairwise (fun x y => x.e.path ≠ y.e.path) := (hpm'.trans hp.symm).symm.pairwise hnd (fun h => h.symm)
  have hd : d'.toList = ss := by
    refine rise_unique (hpm'.trans hp.symm) ?_ hs
    rw [List.pairwise_iff_getElem]
    intro i j hi hj hij
    have hne := List.pairwise_iff_getElem.1 hnd' i j hi hj hij
    have hlt := hsort i j (Nat.zero_le _) hij (by simpa [← hsz'] using hj)
    have e1 : ltOf (fun x y : Rw => cmpB x.e.path y.e.path) d'[j]! d'[i]! = Op.bytesLess d'[j]!.e.path d'[i]!.e.path := cmpB_lt _ _
    rw [e1] at hlt
    have hi' : i < d'.size := by simpa using hi
    have hj' : j < d'.size := by simpa using hj
    rw [getElem!_pos d' i hi', getElem!_pos d' j hj'] at hlt
    simp only [Array.getElem_toList] at hne ⊢
    exact bl_total _ _ hlt (fun x => hne x.symm)
  have hK := holdsK_sortWorldK_c cellsI 4 w g 0 rs.toArray d' m os hH hg (by simpa using hsz')
  refine ⟨he, fun i q r hi hq => ?_, ?_⟩
  · rw [← hd] at hi
    have hi' : i < d'.size := by have := (List.getElem?_eq_some_iff.1 hi).1; simpa using this
    have := (hK.cell (i := i) (c := q) hi' hq).1
    rw [Nat.zero_add] at this
    rw [this]
    have e1 : d'[i]! = r := by
      rw [getElem!_pos d' i hi']
      have := (List.getElem?_eq_some_iff.1 hi).2
      simpa using this
    rw [e1]
    have hl : q < (cellsI r).length := hq
    rw [List.getElem?_eq_getElem hl, getElem!_pos (cellsI r) q hl]
  · refine ⟨rfl, rfl, rfl, ?_, fun k hk hn => ?_⟩
    · show w.heap.size ≤ ((w.heap.modify g _) ++ os).size
      simp
    · show ((w.heap.modify g _) ++ os)[k]? = w.heap[k]?
      rw [Array.getElem?_append_left (by simpa using hk), Array.getElem?_modify]
      have : ¬ g = k := fun e => hn e.symm
      simp [this]

end Go.Proofs.YtebgfaohhhgdpaaGreat

namespace Go.Proofs.YtebgfaohhhgdpaaGreat
open Go.RowKit Go.Maps Go.Shelf
set_option linter.unusedVariables false

set_option maxRecDepth 100000 in
set_option maxHeartbeats 4000000 in
theorem appendSeqI_in (F : Fence) (n : Nat) (h11 : F.fn 217) (hro : F.round = none) (hn : 2 ≤ n) (hFg : F.fn 206) (Bm b N : Nat) (S : Nat → Bs → Option En) (w0 w : World) (hBm : Bm < w.heap.size) (hm : w.cell? ⟨Bm, 0, none⟩ = some (.map (some b))) (hS : SeeM w0 w b N S) (hN : N ≤ 1000) :
    CallsIn F n Tryz.prog 217 #[.slice none 0 0, .func (.func 206) #[] #[.pointer (some ⟨Bm, 0, none⟩)]] w fun e w' => ∃ (v : Value) (ss : List ((Nat × Bs) × Rw)), e = .returned v ∧ ss.length ≤ N ∧ CameS w0 S (fun _ => false) ss ∧ w'.ownsRow w.heap.size 66 4 v (ss.map Prod.snd).length (rowI (ss.map Prod.snd)) ∧ (v = .slice none 0 0 ↔ ss.map Prod.snd = []) ∧ Below w.heap.size w w' := by
  have h1 : 1 ≤ n := by omega
  have hne : 57 ≠ 66 := by decide
  have eg : ∀ args w, (callFunc 206 args).run Tryz.prog w = .ok (.enter 206 args) w := enters_of Tryz.func206 (by kernel_rfl) rfl
  obtain ⟨cs, hcs⟩ : ∃ cs, cs = loopOf Tryz.f217.body := ⟨_, rfl⟩
  refine callsIn_of_wp_marks Tryz.func217 rfl h11 ?_ hro
  simp only [Tryz.ntmps217, List.size_toArray, List.length_cons, List.length_nil, Nat.reduceAdd, Nat.reduceSub, Array.replicate_succ, Array.replicate_zero, List.push_toArray, List.append_toArray, List.nil_append, List.cons_append]
  gi_wp2
  refine wpIn_rangeFunc ?_
  intro fn hfn
  rw [hro]
  have hcs2 := hcs
  simp only [loopOf, Tryz.f217] at hcs2
  have hc1 := congrArg Prod.fst hcs2
  have hc2' := congrArg Prod.snd hcs2
  simp only at hc1 hc2'
  rw [← hc1, ← hc2']
  clear hcs2 hc1 hc2'
  obtain ⟨W0, hW0⟩ : ∃ W0, w.alloc (.cells #[.slice none 0 0] 57) = W0 := ⟨_, rfl⟩
  have hs0 : W0.heap.size = w.heap.size + 1 := by rw [← hW0]; simp
  have hv0 : W0.heap[w.heap.size]? = some (.cells #[.slice none 0 0] 57 (0, 0)) := by rw [← hW0]; exact World.alloc_heap_new w _
  have hb0 : Below w.heap.size w W0 := by rw [← hW0]; exact (Below.refl _ w).alloc (Nat.le_refl _) _
  rw [hW0]
  obtain ⟨sv, hsv⟩ : ∃ sv, (Value.func (.func 206) #[] #[.pointer (some ⟨Bm, 0, none⟩)]) = sv := ⟨_, rfl⟩
  obtain ⟨W1, hW1⟩ : ∃ W1, (W0.alloc (.deferred (some []))).alloc (.loop (apRecI cs fn sv w.heap.size W0.heap.size .ready none)) = W1 := ⟨_, rfl⟩
  have hold : ∀ k, k < W0.heap.size → W1.heap[k]? = W0.heap[k]? := fun k hk => by
    rw [← hW1]; exact (Below.heap_alloc _ _ k (by simp; omega)).trans (Below.heap_alloc _ _ k hk)
  have hb1 : Below w.heap.size w W1 := by rw [← hW1]; exact (hb0.alloc hb0.size _).alloc (by have := hb0.size; simp; omega) _
  have hs1 : W1.heap.size = W0.heap.size + 2 := by rw [← hW1]; simp
  have hM : ApAtI cs w fn sv w.heap.size (W0.heap.size + 1) W0.heap.size [] W1 :=
    ⟨⟨_, (hold w.heap.size (by omega)).trans hv0, ⟨rfl, .inl ⟨rfl, rfl⟩⟩, by simp⟩,
     by rw [← hW1]; have := World.alloc_heap_new (W0.alloc (.deferred (some []))) (.loop (apRecI cs fn sv w.heap.size W0.heap.size .ready none)); rwa [World.size_alloc] at this,
     by rw [← hW1]; exact (Below.heap_alloc _ _ _ (by simp)).trans (World.alloc_heap_new W0 _), hb1⟩
  refine ⟨W0.heap.size + 1, [{ target := .collected W0.heap.size, args := #[] }], W1, { target := .fn (.func 206) #[.pointer (some ⟨Bm, 0, none⟩)], args := #[.func (.yield (W0.heap.size + 1)) #[] #[]] }, W1, 206,
    #[.func (.yield (W0.heap.size + 1)) #[] #[]] ++ #[.pointer (some ⟨Bm, 0, none⟩)], W1, ?_, ?_, ?_, ?_, fun _ => h1, ?_⟩
  · rw [← hW1, ← hsv]; exact run_enterLoop_outer _ _ _ _ _
  · simp [resolve, go_sem]
  · intro f' hf'; simp [Target.leads] at hf'; subst hf'; exact hFg
  · simp [invoke, go_sem, eg]
  · refine (values1_in F (n - 1) hFg hro (by omega) (W0.heap.size + 1) Bm b N S w0 (ApAtI cs w fn sv w.heap.size (W0.heap.size + 1) W0.heap.size)
      (fun pre r W hJ hl _ _ => apYieldI cs hcs F (n - 1 - 1) w fn hfn _ w.heap.size (W0.heap.size + 1) W0.heap.size (by omega) (by omega) (by omega) (Nat.le_refl _) (by omega) pre r W hJ (by omega)) W1 (ap_abidesI cs _ _ _ _ _ _ _ hb1.size) ((hb1.cell (p := ⟨Bm, 0, none⟩) hBm).trans hm) (hS.below hb1) hM).mono ?_
    rintro e W2 ⟨⟨v0, rfl⟩, ss, hln, hCm, h2⟩
    obtain ⟨v, hv, hrow, hnil⟩ := h2.box
    have hend := run_endLoop (P := Tryz.prog) h2.L (by simp [apRecI])
    obtain ⟨W3, hW3⟩ : ∃ W3, W2.putObj (W0.heap.size + 1) (.loop { apRecI cs fn sv w.heap.size W0.heap.size .ready none with state := .exhausted }) = W3 := ⟨_, rfl⟩
    rw [hW3] at hend
    have hg3 : W2.grownBy W3 (some (W0.heap.size + 1)) := by rw [← hW3]; exact grownBy_putObj_a _ _ _
    have hv3 : W3.heap[w.heap.size]? = some (.cells #[v] 57 (0, 0)) := by rw [← hW3]; exact (World.putObj_heap_other (by omega)).trans hv
    have hK3 : W3.heap[W0.heap.size]? = some (.deferred (some [])) := by rw [← hW3]; exact (World.putObj_heap_other (by omega)).trans h2.K
    have hrow3 := hrow.kept hg3 (ownsRow_ne_a hrow h2.L (fun cur e => by first | cases e | exact hne (Obj.cells.inj e).2.1))
    have hb3 : Below w.heap.size w W3 := h2.below.grown hg3 h2.below.size (fun k e => by cases e; omega)
    obtain ⟨hc3, hf3⟩ := cell_of_box_a hv3
    clear hW3
    refine ⟨none, W3, hend, ?_⟩
    gi_wp2
    rw [← hs0]
    refine ⟨by simp, .inl ⟨_, _, rfl, run_takeDeferred hK3, ?_⟩⟩
    exact ⟨_, results_tmp rfl _ _ _, v, ss, rfl, hln, hCm, hrow3.kept (grownBy_putObj_a _ _ _) (ownsRow_ne_a hrow3 hK3 (fun cur e => by first | cases e | exact hne (Obj.cells.inj e).2.1)), hnil, hb3.grown (grownBy_putObj_a _ _ _) hb3.size (fun k e => by cases e; omega)⟩
end Go.Proofs.YtebgfaohhhgdpaaGreat

namespace Go.Proofs.YtebgfaohhhgdpaaGreat
open Go.RowKit Go.Maps Go.Sort Go.Shelf
set_option linter.unusedVariables false
attribute [local go_sem ↓] Go.wp_at_zero Go.wp_at_succ

set_option maxRecDepth 100000 in
set_option maxHeartbeats 1600000 in
theorem insNilS_any (f : Value) (w : World) : Calls Tryz.prog 184 #[.slice none 0 0, .int .i64 0, .int .i64 0, f] w fun r w' => r = .returned (.tuple #[]) ∧ w' = w := by
  go_enter Tryz.func184, Tryz.ntmps184
  go_wp2_with fail
  go_loopw [8] (fun i wr => i = .int .i64 1 ∧ wr = w) (fun i _ => 0)
  case atStart => exact ⟨by go_num, rfl⟩
  case round =>
    obtain ⟨rfl, rfl⟩ := hrel
    go_wp2_with fail
    first | go_end0 | skip
    first | exact ⟨rfl, rfl⟩ | exact ⟨rfl, _, by simp [results, Tryz.results151, go_sem], rfl, rfl⟩
set_option maxRecDepth 100000 in
set_option maxHeartbeats 1600000 in
theorem pdqNilS_any (f : Value) (w : World) : Calls Tryz.prog 151 #[.slice none 0 0, .int .i64 0, .int .i64 0, .int .i64 0, f] w fun r w' => r = .returned (.tuple #[]) ∧ w' = w := by
  go_enter Tryz.func151, Tryz.ntmps151
  go_wp2_with fail
  go_loopw [1, 2] (fun i j wr => i = .int .i64 0 ∧ j = .int .i64 0 ∧ wr = w) (fun i j _ => 0)
  case atStart => exact ⟨rfl, rfl, rfl⟩
  case round =>
    obtain ⟨rfl, rfl, rfl⟩ := hrel
    go_wp2_with fail
    refine (insNilS_any f _).mono ?_
    rintro r w1 ⟨rfl, rfl⟩
    go_wp2_with fail
    first | go_end0 | skip
    first | exact ⟨rfl, rfl⟩ | exact ⟨rfl, _, by simp [results, Tryz.results151, go_sem], rfl, rfl⟩
set_option maxRecDepth 100000 in
set_option maxHeartbeats 1600000 in
theorem sortNilS_any (f : Value) (w : World) : Calls Tryz.prog 171 #[.slice none 0 0, f] w fun r w' => r = .returned (.tuple #[]) ∧ w' = w := by
  have HL : Hid (Calls Tryz.prog 152 #[.int .u64 0] w fun e w' => e = .returned (.int .i64 0) ∧ w' = w) := hide (by
    have h3 := Any.bits_Len Tryz.lenT 0 w (by omega) (by omega)
    exact h3)
  have wr : IntKind.u64.wrap 0 = 0 := by simp [IntKind.wrap, IntKind.bits, IntKind.signed]
  go_enter Tryz.func171, Tryz.ntmps171
  go_wp2_with fail
  refine HL.out.mono ?_
  rintro e w1 ⟨rfl, rfl⟩
  go_wp2_with fail
  refine (pdqNilS_any f _).mono ?_
  rintro r w1 ⟨rfl, rfl⟩
  go_wp2_with fail
  first | go_end0 | skip
  exact ⟨rfl, rfl⟩

theorem insR (r : Rw) : ∀ ss : List Rw, ss.Pairwise (fun x y => Op.bytesLess x.e.path y.e.path = true) → (∀ x ∈ ss, x.e.path ≠ r.e.path) → ∃ s2 : List Rw, s2.Perm (r :: ss) ∧ s2.Pairwise (fun x y => Op.bytesLess x.e.path y.e.path = true)
  | [], _, _ => ⟨[r], List.Perm.refl _, by simp⟩
  | x :: t, h, hn => by
    obtain ⟨h1, h2⟩ := List.pairwise_cons.1 h
    by_cases hr : Op.bytesLess r.e.path x.e.path = true
    · refine ⟨r :: x :: t, List.Perm.refl _, List.pairwise_cons.2 ⟨fun y hy => ?_, h⟩⟩
      rcases List.mem_cons.1 hy with rfl | hy
      · exact hr
      · exact bl_trans _ _ _ hr (h1 y hy)
    · obtain ⟨s2, hp, hs⟩ := insR r t h2 (fun y hy => hn y (List.mem_cons_of_mem _ hy))
      refine ⟨x :: s2, ((hp.cons x).trans (List.Perm.swap _ _ _)), List.pairwise_cons.2 ⟨fun y hy => ?_, hs⟩⟩
      rcases List.mem_cons.1 (hp.mem_iff.1 hy) with rfl | hy
      · exact bl_total _ _ (by simpa using hr) (hn x List.mem_cons_self).symm
      · exact h1 y hy
theorem sortR : ∀ rs : List Rw, rs.Pairwise (fun x y => x.e.path ≠ y.e.path) → ∃ ss : List Rw, ss.Perm rs ∧ ss.Pairwise (fun x y => Op.bytesLess x.e.path y.e.path = true)
  | [], _ => ⟨[], List.Perm.refl _, List.Pairwise.nil⟩
  | r :: t, h => by
    obtain ⟨h1, h2⟩ := List.pairwise_cons.1 h
    obtain ⟨ss, hp, hs⟩ := sortR t h2
    obtain ⟨s2, hp2, hs2⟩ := insR r ss hs (fun x hx => (h1 x (hp.mem_iff.1 hx)).symm)
    exact ⟨s2, hp2.trans (hp.cons r), hs2⟩
def OneP (S : Nat → Bs → Option En) : Prop := ∀ i j p q e f, S i p = some e → S j q = some f → e.path = f.path → (i, p) = (j, q)
theorem CameS.apart {w0 : World} {S : Nat → Bs → Option En} {left : Lit → Bool} {ss : List ((Nat × Bs) × Rw)} (h : CameS w0 S left ss) (ho : OneP S) : (ss.map Prod.snd).Pairwise (fun x y => x.e.path ≠ y.e.path) := by
  rw [List.pairwise_map]
  have h1 := h.one
  rw [List.Nodup, List.pairwise_map] at h1
  refine h1.imp_of_mem (fun {x y} hx hy hne he => ?_)
  exact hne (ho _ _ _ _ _ _ (h.was x hx).2.2.1 (h.was y hy).2.2.1 he)
theorem CameS.mem {w0 : World} {S : Nat → Bs → Option En} {ss : List ((Nat × Bs) × Rw)} (h : CameS w0 S (fun _ => false) ss) (e : En) : e ∈ (ss.map Prod.snd).map Rw.e ↔ ∃ i p, i ≤ 100 ∧ p.length ≤ 1048576 ∧ S i p = some e := by
  constructor
  · intro he
    obtain ⟨r, hr, rfl⟩ := List.mem_map.1 he
    obtain ⟨x, hx, rfl⟩ := List.mem_map.1 hr
    obtain ⟨a1, a2, a3, -⟩ := h.was x hx
    exact ⟨_, _, a1, a2, a3⟩
  · rintro ⟨i, p, hi, hp, hS⟩
    obtain ⟨x, hx, hxe⟩ := List.mem_map.1 (h.all i p e hi hp hS rfl)
    obtain ⟨a1, a2, a3, -⟩ := h.was x hx
    rw [hxe] at a3
    have : x.2.e = e := by rw [hS] at a3; exact (Option.some.inj a3).symm
    exact List.mem_map.2 ⟨x.2, List.mem_map.2 ⟨x, hx, rfl⟩, this⟩

set_option maxRecDepth 100000 in
set_option maxHeartbeats 1600000 in
theorem collectI_any (Bm b N : Nat) (S : Nat → Bs → Option En) (w0 w : World) (hBm : Bm < w.heap.size) (hm : w.cell? ⟨Bm, 0, none⟩ = some (.map (some b))) (hS : SeeM w0 w b N S) (hN : N ≤ 1000) :
    Calls Tryz.prog 205 #[.func (.func 206) #[] #[.pointer (some ⟨Bm, 0, none⟩)]] w fun e w' => ∃ (v : Value) (ss : List ((Nat × Bs) × Rw)), e = .returned v ∧ ss.length ≤ N ∧ CameS w0 S (fun _ => false) ss ∧ w'.ownsRow w.heap.size 66 4 v (ss.map Prod.snd).length (rowI (ss.map Prod.snd)) ∧ Below w.heap.size w w' := by
  have HA := hide (callsIn_wide.1 (appendSeqI_in Fence.wide 5 trivial rfl (by omega) trivial Bm b N S w0 w hBm hm hS hN))
  clear hS hm
  go_enter Tryz.func205, Tryz.ntmps205
  go_wp2_with fail
  refine HA.out.mono ?_
  rintro e w1 ⟨v, ss, rfl, hln, hC, hrow, -, hb⟩
  have HC := hide hC
  have HRw := hide hrow
  have HB := hide hb
  clear hC hrow hb
  go_wp2_with fail
  go_ret
  exact ⟨v, ss, rfl, hln, HC.out, HRw.out, HB.out⟩
theorem rdI_sorted {w : World} {g : Nat} {ss : List Rw} (hg : ss ≠ [] → g < w.heap.size) (hc : ∀ i q r, ss[i]? = some r → q < 4 → w.cell? ⟨g, i * 4 + q, none⟩ = (cellsI r)[q]?) (hr : ∀ r ∈ ss, Reads .i64 w r.a r.e.chunks) : RdI w (some ⟨g, 0, none⟩) (ss.map Rw.e) := by
  intro hz
  refine ⟨g, 0, fun i => ((ss[i]?).map Rw.a).getD none, fun i => ((ss[i]?).map Rw.c).getD 0, rfl, hg (fun e => hz (by rw [e]; rfl)), fun i e he => ?_⟩
  rw [List.getElem?_map] at he
  obtain ⟨r, hri, rfl⟩ := Option.map_eq_some_iff.1 he
  simp only [hri, Option.map_some, Option.getD_some, Nat.zero_add]
  exact ⟨hc i 0 r hri (by omega), hc i 1 r hri (by omega), hc i 2 r hri (by omega), hc i 3 r hri (by omega), hr r (List.mem_of_getElem? hri)⟩
set_option maxRecDepth 100000 in
set_option maxHeartbeats 1600000 in
theorem sortedI_any (Bm b N : Nat) (S : Nat → Bs → Option En) (w0 w : World) (hBm : Bm < w.heap.size) (hm : w.cell? ⟨Bm, 0, none⟩ = some (.map (some b))) (hS : SeeM w0 w b N S) (hN : N ≤ 1000) (ho : OneP S) (hw0 : Below w0.heap.size w0 w) :
    Calls Tryz.prog 175 #[.func (.func 206) #[] #[.pointer (some ⟨Bm, 0, none⟩)], .func (.func 101) #[] #[]] w fun r w' => ∃ av cv rs, r = .returned (.slice av rs.length cv) ∧ Rise rs ∧ (∀ e, e ∈ rs ↔ ∃ i p, i ≤ 100 ∧ p.length ≤ 1048576 ∧ S i p = some e) ∧ RdI w' av rs ∧ Below w.heap.size w w' := by
  have HCo := hide (collectI_any Bm b N S w0 w hBm hm hS hN)
  clear hS hm
  go_enter Tryz.func175, Tryz.ntmps175
  go_wp2_with fail
  refine HCo.out.mono ?_
  rintro e w1 ⟨v, cs, rfl, hln, hC, hrow, hb1⟩
  have HM := hide hC.mem
  obtain ⟨ss, hperm, hsort⟩ := sortR _ (hC.apart ho)
  have HRd := hide (show ∀ r ∈ ss, Reads .i64 w0 r.a r.e.chunks from fun r hr => by
    obtain ⟨x, hx, rfl⟩ := List.mem_map.1 (hperm.mem_iff.1 hr)
    exact (hC.was x hx).2.2.2.1)
  have HB1 := hide hb1
  have HB0 := hide (below_next hw0 hb1)
  have HP := hide hperm
  have HSo := hide hsort
  have hlen : (cs.map Prod.snd).length ≤ 1000 := by rw [List.length_map]; omega
  have hsw := hw0.size
  have hsw1 := hb1.size
  clear hC hperm hsort hb1 hw0 hln
  generalize cs.map Prod.snd = rs at *
  rcases hrow.2 with ⟨rfl, h0⟩ | ⟨g, cap, cur, rfl, hgw, hgb, hx⟩
  · have hrs : rs = [] := List.length_eq_zero_iff.1 h0
    subst hrs
    go_wp2_with fail
    refine (sortNilS_any _ _).mono ?_
    rintro r w2 ⟨rfl, rfl⟩
    go_wp2_with fail
    go_ret
    exact ⟨none, 0, [], rfl, List.Pairwise.nil, fun e => by rw [← HM.out e]; simp, fun hz => absurd rfl hz, HB1.out⟩
  · have HSS := hide (sortSlice_any w.heap.size g rs.length cap rs ss w1 hrow rfl (by omega) HP.out HSo.out)
    have hgl : g < w1.heap.size := (Array.getElem?_eq_some_iff.1 hgb).1
    have HL := hide (show rs.length = (ss.map Rw.e).length by rw [List.length_map]; exact HP.out.length_eq.symm)
    clear hrow hgb hx
    go_wp2_with fail
    refine HSS.out.mono ?_
    rintro r w2 ⟨rfl, hcells, hk⟩
    have B2 := hide (kept_below HB1.out hk (by omega) (by omega))
    have B02 := hide (kept_below HB0.out hk (by omega) (by omega))
    have hsz2 := hk.size
    have RI := hide (rdI_sorted (w := w2) (g := g) (ss := ss) (fun _ => by omega) hcells (fun r hr => (HRd.out r hr).below B02.out))
    clear hcells hk HSS
    go_wp2_with fail
    go_ret
    refine ⟨some ⟨g, 0, none⟩, cap, ss.map Rw.e, by rw [HL.out]; rfl, ?_, fun e => ?_, RI.out, B2.out⟩
    · unfold Rise
      rw [List.pairwise_map]
      exact HSo.out
    · rw [← HM.out e]
      exact (HP.out.map Rw.e).mem_iff
set_option maxRecDepth 100000 in
set_option maxHeartbeats 1600000 in
theorem rising_any (b N : Nat) (S : Nat → Bs → Option En) (w0 w : World) (hS : SeeM w0 w b N S) (hN : N ≤ 1000) (ho : OneP S) (hw0 : Below w0.heap.size w0 w) :
    Calls Tryz.prog 135 #[.map (some b)] w fun r w' => ∃ av cv rs, r = .returned (.slice av rs.length cv) ∧ Rise rs ∧ (∀ e, e ∈ rs ↔ ∃ i p, i ≤ 100 ∧ p.length ≤ 1048576 ∧ S i p = some e) ∧ RdI w' av rs ∧ Below w.heap.size w w' := by
  have hV : Calls Tryz.prog 176 #[.map (some b)] w fun r w' => r = .returned (.func (.func 206) #[] #[.pointer (some ⟨w.heap.size, 0, none⟩)]) ∧ w' = w.alloc (.cells #[.map (some b)] 101) := by
    go_enter Tryz.func176, Tryz.ntmps176
    go_wp2_with fail
    go_ret
    exact ⟨rfl, rfl⟩
  have HV := hide hV
  have B0 := hide (below_alloc w (.cells #[.map (some b)] 101))
  have HSo := hide (sortedI_any w.heap.size b N S w0 (w.alloc (.cells #[.map (some b)] 101)) (by simp) (by simp) (hS.below B0.out) hN ho (below_next hw0 B0.out))
  clear hV hS hw0
  go_enter Tryz.func135, Tryz.ntmps135
  go_wp2_with fail
  refine HV.out.mono ?_
  rintro r w1 ⟨rfl, rfl⟩
  go_wp2_with fail
  refine HSo.out.mono ?_
  rintro r w2 ⟨av, cv, rs, rfl, h1, h2, h3, h4⟩
  have H1 := hide h1
  have H2 := hide h2
  have H3 := hide h3
  have H4 := hide (below_next B0.out h4)
  clear h1 h2 h3 h4
  go_wp2_with fail
  go_ret
  exact ⟨av, cv, rs, rfl, H1.out, H2.out, H3.out, H4.out⟩
end Go.Proofs.YtebgfaohhhgdpaaGreat

namespace Go.Proofs.YtebgfaohhhgdpaaGreat
set_option linter.unusedVariables false

theorem up_hid {L : List En} (h : Fit L) {q : Bs} (hq : faultP q = 0) : ((above q).any fun u => (findE L u).any fun e => !decide (e.kind = 2)) = hid L q := by
  rw [Bool.eq_iff_iff, hid_iff, List.any_eq_true]
  constructor
  · rintro ⟨u, hu, hr⟩
    cases hf : findE L u with
    | none => rw [hf] at hr; cases hr
    | some e =>
      rw [hf] at hr
      obtain ⟨he, rfl⟩ := find_mem hf
      have hb : isBelow q e.path = true := by simpa [isBelow] using hu
      rw [isBelow_good hq] at hb
      exact ⟨e, he, by simpa using hr, (of_decide_eq_true hb).2⟩
  · rintro ⟨e, he, hk, hb⟩
    refine ⟨e.path, ?_, by rw [rise_find h.rise he]; simpa using hk⟩
    have hb : isBelow q e.path = true := by rw [isBelow_good hq]; exact decide_eq_true ⟨h.path he, hb⟩
    simpa [isBelow] using hb

def allE (ls : List (List En)) : List En := ls.foldl mergeE []
theorem allE_snoc (D : List (List En)) (L : List En) : allE (D ++ [L]) = mergeE (allE D) L := by simp [allE, List.foldl_append]
def sawN (ls : List (List En)) (q : Bs) (n : Nat) : Option En := (seenG (seeL ls) q n).bind fun k => (seeL ls k q).map asT
theorem all_view {ls : List (List En)} (h : ∀ es ∈ ls, Fit es) : ∀ n, n ≤ ls.length → FitT (allE (ls.take n)) ∧ ∀ q, faultP q = 0 → findE (allE (ls.take n)) q = sawN ls q n
  | 0, _ => ⟨by simpa [allE] using fitT_nil, fun q _ => by simp [allE, sawN, seenG, findE]⟩
  | n + 1, hn => by
    obtain ⟨ih1, ih2⟩ := all_view h n (by omega)
    have hL : ls[n]? = some (ls[n]'(by omega)) := List.getElem?_eq_getElem (by omega)
    have hm := List.mem_of_getElem? hL
    generalize ls[n]'(by omega) = L at *
    have ht : ls.take (n + 1) = ls.take n ++ [L] := by rw [List.take_add_one, hL]; rfl
    rw [ht, allE_snoc]
    have hF := h L hm
    refine ⟨merge_fit ih1 hF, fun q hq => ?_⟩
    rw [merge_find ih1 hF]
    have hS : ∀ u, seeL ls n u = findE L u := fun u => by simp [seeL, hL]
    unfold sawN
    cases hf : findE L q with
    | some e =>
      rw [seeT_some hf, seen_hit (by rw [hS]; exact hf)]
      by_cases h3 : e.kind = 3
      · simp [h3]
      · simp [h3, hS, hf]
    | none =>
      rw [seeT_none hf]
      have hu := up_hid hF hq
      cases hh : hid L q
      · rw [seen_down (by rw [hS]; exact hf) (by simp only [hS]; rw [hu, hh]), if_neg (by simp), ih2 q hq]
        rfl
      · rw [seen_hid (by rw [hS]; exact hf) (by simp only [hS]; rw [hu, hh])]
        simp
theorem seen_over {ls : List (List En)} {q : Bs} : ∀ {n : Nat}, ls.length ≤ n → seenG (seeL ls) q n = seenG (seeL ls) q ls.length
  | 0, h => by rw [Nat.le_zero.1 h]
  | n + 1, h => by
    by_cases h1 : ls.length = n + 1
    · rw [h1]
    · have hS : ∀ u, seeL ls n u = none := fun u => by
        have : ls[n]? = none := List.getElem?_eq_none (by omega)
        simp [seeL, this]
      rw [seen_down (hS q) (by rw [List.any_eq_false]; intro u _; rw [hS u]; simp)]
      exact seen_over (by omega)
def sawE (ls : List (List En)) (q : Bs) : Option En := (seenL ls q).bind fun k => (seeL ls k q).map asT
theorem all_fit {ls : List (List En)} (h : ∀ es ∈ ls, Fit es) : FitT (allE ls) := by
  have := (all_view h ls.length (Nat.le_refl _)).1
  rwa [List.take_length] at this
theorem all_find {ls : List (List En)} (h : ∀ es ∈ ls, Fit es) (h4 : ls.length ≤ 4) {q : Bs} (hq : faultP q = 0) : findE (allE ls) q = sawE ls q := by
  have := (all_view h ls.length (Nat.le_refl _)).2 q hq
  rw [List.take_length] at this
  rw [this]
  unfold sawN sawE seenL
  rw [seen_over h4]
theorem rights_fit {ls : List (List En)} (h : ∀ es ∈ ls, Right es) : ∀ es ∈ ls, Fit es := fun es he => (right_fit.1 (h es he)).1
theorem look_all {ls : List (List En)} {p : Bs} (h : askL ls p = 0) : plcC ls p = (if (findE (allE ls) p).isSome then 0 else 4) ∧ lookL ls p = (findE (allE ls) p).toList := by
  obtain ⟨h4, hR, hp⟩ := askL_right h
  rw [all_find (rights_fit hR) h4 hp]
  cases hs : seenL ls p with
  | none =>
    obtain ⟨h1, -, h2⟩ := plc_none h hs
    rw [h1, h2]; simp [sawE, hs]
  | some k =>
    obtain ⟨-, e, he, -⟩ := seen_some (show seenG (seeL ls) p 4 = some k from hs)
    obtain ⟨h1, -, h2⟩ := plc_some h hs he
    rw [h1, h2]; simp [sawE, hs, he]
theorem all_rise {ls : List (List En)} {rs : List En} (h : ∀ es ∈ ls, Right es) (h4 : ls.length ≤ 4) (hr : Rise rs) (hm : ∀ e, e ∈ rs ↔ ∃ k, seenL ls e.path = some k ∧ seeL ls k e.path = some e) : rs.map asT = allE ls := by
  have hF := rights_fit h
  have hr2 : Rise (rs.map asT) := by
    unfold Rise at hr ⊢
    rw [List.pairwise_map]
    exact hr.imp (fun {a b} hab => by rw [asT_path, asT_path]; exact hab)
  have hfa := all_fit hF
  have hpath : ∀ e ∈ rs, faultP e.path = 0 := fun e he => by
    obtain ⟨k, -, h2⟩ := (hm e).1 he
    obtain ⟨es, hes, hee, -⟩ := seeL_mem h2
    exact (hF es hes).path hee
  refine rise_ext hr2 hfa.fit.rise (fun q => ?_)
  by_cases hq : faultP q = 0
  · rw [all_find hF h4 hq]
    unfold sawE
    cases hs : seenL ls q with
    | none =>
      refine find_none (fun x hx => ?_)
      obtain ⟨e, he, rfl⟩ := List.mem_map.1 hx
      obtain ⟨k, h1, -⟩ := (hm e).1 he
      rw [asT_path]
      intro e1
      rw [e1, hs] at h1; cases h1
    | some k =>
      obtain ⟨-, e, he, -⟩ := seen_some (show seenG (seeL ls) q 4 = some k from hs)
      obtain ⟨-, -, -, hpe⟩ := seeL_mem he
      have hmem : e ∈ rs := (hm e).2 ⟨k, by rw [hpe]; exact hs, by rw [hpe]; exact he⟩
      have h1 := rise_find hr2 (List.mem_map.2 ⟨e, hmem, rfl⟩)
      rw [asT_path, hpe] at h1
      rw [h1]; simp [he]
  · rw [find_none, find_none]
    · intro x hx e1; rw [← e1] at hq; exact hq (hfa.fit.path hx)
    · intro x hx e1
      obtain ⟨e, he, rfl⟩ := List.mem_map.1 hx
      rw [asT_path] at e1
      rw [← e1] at hq; exact hq (hpath e he)
end Go.Proofs.YtebgfaohhhgdpaaGreat

namespace Go.Proofs.YtebgfaohhhgdpaaGreat
open Go.RowKit Go.Maps
set_option linter.unusedVariables false
attribute [local go_sem ↓] Go.wp_at_zero Go.wp_at_succ

set_option maxRecDepth 100000 in
set_option maxHeartbeats 1600000 in
theorem hasI_any (a : Option Addr) (c n : Nat) (es : List En) (fn : FuncId) (cap : Array Value) (f : En → Bool) (w : World) (h : RdI w a es) (hn : n = es.length) (hl : es.length ≤ 1048576) (hs : SmallE es) (hf : Asks w fn cap f) :
    Calls Tryz.prog 102 #[.slice a n c, .func (.func fn) #[] cap] w fun r w' => r = .returned (.bool (es.any f)) ∧ Below w.heap.size w w' := by
  subst hn
  have HC := hide (first_any a c es.length es fn cap f w h rfl hl hs hf)
  clear h hf hs
  go_enter Tryz.func102, Tryz.ntmps102
  go_wp2_with fail
  refine HC.out.mono ?_
  rintro r w1 ⟨(⟨e, x, cc, hq, rfl, -⟩ | ⟨hq, rfl⟩), hb1⟩
  · have HA := hide (show es.any f = true from List.any_eq_true.2 ⟨e, List.mem_of_find?_eq_some hq, List.find?_some hq⟩)
    have B1 := hide hb1
    clear hb1 hq
    go_wp2_with fail
    go_ret
    exact ⟨ret_bool HA.out.symm, below_next B1.out (below_alloc _ _)⟩
  · have HA := hide (show es.any f = false from List.any_eq_false.2 (fun x hx => List.find?_eq_none.1 hq x hx))
    have B1 := hide hb1
    clear hb1 hq
    go_wp2_with fail
    go_ret
    exact ⟨ret_bool HA.out.symm, below_next B1.out (below_alloc _ _)⟩

theorem filter_in {es : List En} {f : En → Bool} {k : Nat} {e : En} (he : es[k]? = some e) (h : f e = true) : (es.take (k + 1)).filter f = (es.take k).filter f ++ [e] := by
  rw [take_snoc_at he, List.filter_append]; simp [h]
theorem filter_out {es : List En} {f : En → Bool} {k : Nat} {e : En} (he : es[k]? = some e) (h : f e = false) : (es.take (k + 1)).filter f = (es.take k).filter f := by
  rw [take_snoc_at he, List.filter_append]; simp [h]

set_option maxRecDepth 100000 in
set_option maxHeartbeats 3200000 in
theorem those_any (a : Option Addr) (c n : Nat) (es : List En) (fn : FuncId) (cap : Array Value) (f : En → Bool) (w : World) (h : RdI w a es) (hn : n = es.length) (hl : es.length ≤ 1048576) (hs : SmallE es) (hf : Asks w fn cap f) :
    Calls Tryz.prog 104 #[.slice a n c, .func (.func fn) #[] cap] w fun r w' => ∃ av cv, r = .returned (.slice av (es.filter f).length cv) ∧ LI w w' (.slice av (es.filter f).length cv) (es.filter f) ∧ Below w.heap.size w w' := by
  subst hn
  obtain ⟨i1, ki, kz0, kz1, kz2⟩ := info_parts Tryz.infoIt
  have eg := hf.1
  have HF := hide hf
  have HR := hide h
  have HS := hide hs
  clear h hf hs
  go_enter Tryz.func104, Tryz.ntmps104
  go_wp2_with fail
  go_loopw [5, 10] (fun v i wr => ∃ k : Nat, k ≤ es.length ∧ i = .int .i64 k ∧ Hid (LI w wr v ((es.take k).filter f)) ∧ Hid (Below w.heap.size w wr)) (fun _ i _ => es.length - (intOf i).toNat)
  case atStart => exact ⟨0, Nat.zero_le _, rfl, hide (LI.nil _ _), hide (Below.refl _ _)⟩
  case round =>
    obtain ⟨k, hk, rfl, HL, HW⟩ := hrel
    have hsz := HW.out.size
    obtain ⟨lv, lc, hv⟩ := HL.out.shape
    subst hv
    have hrl := List.length_filter_le f (es.take k)
    rw [List.length_take] at hrl
    by_cases hlt : k < es.length
    · obtain ⟨b, off, e, x, cc, rfl, hb, he, c0, c1, c2, c3, hr⟩ := (HR.out.below HW.out).at hlt
      obtain ⟨b', off', e', x', cc', hbb, hb', he', d0, d1, d2, d3, hr'⟩ := HR.out.at hlt
      simp only [Option.some.injEq, Addr.mk.injEq, and_true] at hbb
      obtain ⟨rfl, rfl⟩ := hbb
      have : e' = e := Option.some.inj (he'.symm.trans he)
      subst this
      have d1' := (HW.out.cell (p := ⟨b, off + k * 4 + 1, none⟩) hb').trans d1
      rw [c1] at d1'
      simp only [Option.some.injEq, Value.slice.injEq, true_and] at d1'
      obtain ⟨rfl, rfl⟩ := d1'
      have hsm := HS.out e' (List.mem_of_getElem? he)
      have HX := hide he
      have HRc := hide hr'
      clear he hr hr' he' d0 d1 d2 d3
      have BA := hide (below_alloc wr (.cells #[.int .i64 e'.size, .slice x e'.chunks.length cc, .string (str e'.path), .int .i64 e'.kind] 66))
      have F4 := hide (Four.new wr (.int .i64 e'.size) (.slice x e'.chunks.length cc) (.string (str e'.path)) (.int .i64 e'.kind) 66)
      go_wp2_with fail
      refine (HF.out.2 e' x cc _ hsm.1 hsm.2 (HRc.out.below (below_next HW.out BA.out)) (below_next HW.out BA.out)).mono ?_
      rintro r w3 ⟨rfl, hb3⟩
      have BB5 := hide (below_next BA.out hb3)
      obtain ⟨f0, f1, f2, f3⟩ := F4.out.below hb3
      clear hb3 c0 c1 c2 c3
      cases hq : f e'
      · have HN := hide (filter_out HX.out hq)
        clear hq
        go_wp2_with fail
        go_roundw
        case rel => exact ⟨k + 1, by omega, by go_num, hide (by rw [HN.out]; exact HL.out.below BB5.out), hide (below_next HW.out BB5.out)⟩
        case measure => simp [intOf]; omega
      · have HN := hide (filter_in HX.out hq)
        clear hq
        obtain ⟨rs, g1, g2, g3⟩ := HL.out
        have G1 := hide g1
        have G2 := hide (ownsRow_below g2 BB5.out)
        have G3 := hide g3
        clear g1 g2 g3
        obtain ⟨L, hL⟩ : ∃ L, L = ((es.take k).filter f).length := ⟨_, rfl⟩
        rw [← hL] at hrl G2 ⊢
        have HLn := hide hL
        clear hL
        have hm1 : L + 1 ≤ maxLen := by unfold maxLen; omega
        have hm1' : (L + 1) * 56 ≤ 140737488355328 := by omega
        have hsz5 := BB5.out.size
        go_wp2_with (at_builtin; refine wpList_append_put rfl (.tmp 17) (.tmp 19) 58 rfl w.heap.size 66 i1 (.agg #[.int .i64 0, .slice none 0 0, .string ⟨#[]⟩, .int .i64 0]) 4 56 Tryz.underlying58 ki kz0 kz1 kz2 rfl (by decide) _ _ _ rfl G2.out _ rfl rfl rfl (by intro u hu; simp at hu; rcases hu with rfl | rfl | rfl | rfl <;> rfl) hm1 hm1' (by omega) ?_; intro av6 cv6 w6 hown6 hk6; have O6 := hide hown6; have K6 := hide hk6; clear hown6 hk6)
        go_roundw
        case rel =>
          refine ⟨k + 1, by omega, by go_num, hide ?_, hide ?_⟩
          · rw [HN.out]
            exact LI.push (e := e') (a := x) (c := cc) G1.out HLn.out G3.out HRc.out O6.out
          · exact (below_next HW.out BB5.out).trans (K6.out.below (by omega) (fun q hq hS => by have := (G2.out.lt q hS).1; omega))
        case measure => simp [intOf]; omega
    · have HE := hide (show es.take k = es from List.take_of_length_le (by omega))
      rw [HE.out] at HL ⊢
      clear HE
      go_wp2_with fail
      go_ret
      exact ⟨lv, lc, rfl, HL.out, HW.out⟩

set_option maxRecDepth 100000 in
set_option maxHeartbeats 800000 in
theorem isAtLit_any (p : Bs) (b : Nat) (e : En) (a : Option Addr) (c : Nat) (w : World) (h : w.cell? ⟨b, 0, none⟩ = some (.string (str p))) :
    Calls Tryz.prog 106 #[.agg #[.int .i64 e.size, .slice a e.chunks.length c, .string (str e.path), .int .i64 e.kind], .pointer (some ⟨b, 0, none⟩)] w fun r w' => r = .returned (.bool (decide (e.path = p))) ∧ Below w.heap.size w w' := by
  have hb := World.block_lt_of_cell? w ⟨b, 0, none⟩ h
  have hs := str_beq e.path p
  generalize decide (e.path = p) = Z at *
  have hbw : (w.alloc (.cells #[.int .i64 e.size, .slice a e.chunks.length c, .string (str e.path), .int .i64 e.kind] 66)).cell? ⟨b, 0, none⟩ = some (.string (str p)) := ((below_alloc w _).cell (p := ⟨b, 0, none⟩) hb).trans h
  go_enter Tryz.func106, Tryz.ntmps106
  go_wp2_with fail
  go_ret
  exact ⟨rfl, below_alloc _ _⟩
theorem isAt_any (p : Bs) (w : World) :
    Calls Tryz.prog 53 #[.string (str p)] w fun r w' => r = .returned (.func (.func 106) #[] #[.pointer (some ⟨w.heap.size, 0, none⟩)]) ∧ Below w.heap.size w w' ∧ Asks w' 106 #[.pointer (some ⟨w.heap.size, 0, none⟩)] (fun e => decide (e.path = p)) := by
  have hmf : ∀ (fn : Fn) (first cap : Array Value) (w : World), (Instr.makeFunc fn first cap).run Tryz.prog w = .ok (.func fn first cap) w := fun _ _ _ _ => rfl
  go_enter Tryz.func53, Tryz.ntmps53
  go_wp2_with fail
  go_ret
  refine ⟨rfl, below_alloc _ _, enters_of Tryz.func106 (by kernel_rfl) rfl, fun e a c w' he _ _ hb => ?_⟩
  exact isAtLit_any p w.heap.size e a c w' ((hb.cell (p := ⟨w.heap.size, 0, none⟩) (by simp)).trans (by simp))

def inP (p : Bs) (e : En) : Bool := if parC e.path = 4 then decide (p = [47]) else decide (parT e.path = p)
set_option maxRecDepth 100000 in
set_option maxHeartbeats 800000 in
theorem isInLit_any (p : Bs) (b : Nat) (e : En) (a : Option Addr) (c : Nat) (w : World) (h : w.cell? ⟨b, 0, none⟩ = some (.string (str p))) (hl : e.path.length ≤ 1048576) :
    Calls Tryz.prog 154 #[.agg #[.int .i64 e.size, .slice a e.chunks.length c, .string (str e.path), .int .i64 e.kind], .pointer (some ⟨b, 0, none⟩)] w fun r w' => r = .returned (.bool (inP p e)) ∧ Below w.heap.size w w' := by
  have HB0 := hide (below_alloc w (.cells #[.int .i64 e.size, .slice a e.chunks.length c, .string (str e.path), .int .i64 e.kind] 66))
  have hb := World.block_lt_of_cell? w ⟨b, 0, none⟩ h
  have KC : Hid (∀ w' : World, Below w.heap.size w w' → w'.cell? ⟨b, 0, none⟩ = some (.string (str p))) := hide (fun w' hb' => (hb'.cell (p := ⟨b, 0, none⟩) hb).trans h)
  have HPC := hide (fun (u : World) => implParentOf_any (str e.path) u (by rw [str_size]; omega))
  rw [str_data] at HPC
  have hs1 : ((str p).toList == [47]) = decide (p = [47]) := by rw [str_toList]; by_cases h47 : p = [47] <;> simp [h47]
  have hs2 := str_beq (parT e.path) p
  have HI := hide (show inP p e = if parC e.path = 4 then decide (p = [47]) else decide (parT e.path = p) from rfl)
  generalize inP p e = Z at *
  generalize decide (p = [47]) = Z1 at *
  generalize decide (parT e.path = p) = Z2 at *
  generalize parT e.path = PT at *
  generalize parC e.path = PC at *
  clear h
  go_enter Tryz.func154, Tryz.ntmps154
  go_wp2_with fail
  refine (HPC.out _).mono ?_
  rintro r w1 ⟨rfl, hb1⟩
  have B1 := hide (below_next HB0.out hb1)
  have B2 := hide (below_next B1.out (below_alloc w1 (.cells #[.int .i64 PC, .string (str PT)] 147)))
  have hc := KC.out _ B2.out
  clear hb1
  by_cases h4 : PC = 4
  · have hb4 : (PC == 4) = true := by simp [h4]
    have HZ := hide (show Z = Z1 from by rw [HI.out, if_pos h4])
    clear h4
    go_wp2_with fail
    go_ret
    exact ⟨ret_bool HZ.out.symm, B2.out⟩
  · have hb4 : (PC == 4) = false := by simp [h4]
    have HZ := hide (show Z = Z2 from by rw [HI.out, if_neg h4])
    clear h4
    go_wp2_with fail
    go_ret
    exact ⟨ret_bool HZ.out.symm, B2.out⟩
theorem isIn_any (p : Bs) (w : World) :
    Calls Tryz.prog 103 #[.string (str p)] w fun r w' => r = .returned (.func (.func 154) #[] #[.pointer (some ⟨w.heap.size, 0, none⟩)]) ∧ Below w.heap.size w w' ∧ Asks w' 154 #[.pointer (some ⟨w.heap.size, 0, none⟩)] (inP p) := by
  have hmf : ∀ (fn : Fn) (first cap : Array Value) (w : World), (Instr.makeFunc fn first cap).run Tryz.prog w = .ok (.func fn first cap) w := fun _ _ _ _ => rfl
  go_enter Tryz.func103, Tryz.ntmps103
  go_wp2_with fail
  go_ret
  refine ⟨rfl, below_alloc _ _, enters_of Tryz.func154 (by kernel_rfl) rfl, fun e a c w' he _ _ hb => ?_⟩
  exact isInLit_any p w.heap.size e a c w' ((hb.cell (p := ⟨w.heap.size, 0, none⟩) (by simp)).trans (by simp)) he

set_option maxHeartbeats 800000 in
theorem isOfTree_any (p : ByteArray) (k z : Int) (a : Option Addr) (n c : Nat) (w : World) :
    Calls Tryz.prog 149 #[.agg #[.int .i64 z, .slice a n c, .string p, .int .i64 k]] w fun r w' => r = .returned (.bool (treeK k)) ∧ Below w.heap.size w w' := by
  by_cases h0 : k = 1
  · have e : treeK k = true := decide_eq_true (.inl h0)
    have hb : (k == 1) = true := by simp [h0]
    rw [e]
    clear e h0
    go_enter Tryz.func149, Tryz.ntmps149
    go_wp2
    go_ret
    exact ⟨rfl, below_alloc _ _⟩
  · have hb : (k == 1) = false := by simp [h0]
    by_cases h1 : k = 2
    · have e : treeK k = true := decide_eq_true (.inr h1)
      have hb1 : (k == 2) = true := by simp [h1]
      rw [e]
      clear e h0 h1
      go_enter Tryz.func149, Tryz.ntmps149
      go_wp2
      go_ret
      exact ⟨rfl, below_alloc _ _⟩
    · have e : treeK k = false := decide_eq_false (fun h => h.elim h0 h1)
      have hb1 : (k == 2) = false := by simp [h1]
      rw [e]
      clear e h0 h1
      go_enter Tryz.func149, Tryz.ntmps149
      go_wp2
      go_ret
      exact ⟨rfl, below_alloc _ _⟩

set_option maxRecDepth 100000 in
set_option maxHeartbeats 800000 in
theorem noTree_any (e : En) (a : Option Addr) (c : Nat) (w : World) :
    Calls Tryz.prog 148 #[.agg #[.int .i64 e.size, .slice a e.chunks.length c, .string (str e.path), .int .i64 e.kind]] w fun r w' => r = .returned (.bool (!treeK e.kind)) ∧ Below w.heap.size w w' := by
  have HC := hide (fun (u : World) => isOfTree_any (str e.path) e.kind e.size a e.chunks.length c u)
  generalize treeK e.kind = Z at *
  go_enter Tryz.func148, Tryz.ntmps148
  go_wp2_with fail
  refine (HC.out _).mono ?_
  rintro r w1 ⟨rfl, hb1⟩
  have B1 := hide (below_next (below_alloc w (.cells #[.int .i64 e.size, .slice a e.chunks.length c, .string (str e.path), .int .i64 e.kind] 66)) hb1)
  clear hb1
  go_wp2_with fail
  go_ret
  exact ⟨rfl, B1.out⟩
theorem noTree_asks (w : World) : Asks w 148 #[] (fun e => !treeK e.kind) :=
  ⟨enters_of Tryz.func148 (by kernel_rfl) rfl, fun e a c w' _ _ _ _ => noTree_any e a c w'⟩

set_option maxRecDepth 100000 in
set_option maxHeartbeats 800000 in
theorem withoutLit_any (b : Nat) (fn : FuncId) (cap : Array Value) (f : En → Bool) (W0 : World) (hf : Asks W0 fn cap f) (e : En) (a : Option Addr) (c : Nat) (w : World) (he : e.path.length ≤ 1048576) (hec : e.chunks.length ≤ 1048576) (hre : Reads .i64 w a e.chunks) (hw : Below W0.heap.size W0 w) (h : w.cell? ⟨b, 0, none⟩ = some (.func (.func fn) #[] cap)) :
    Calls Tryz.prog 105 #[.agg #[.int .i64 e.size, .slice a e.chunks.length c, .string (str e.path), .int .i64 e.kind], .pointer (some ⟨b, 0, none⟩)] w fun r w' => r = .returned (.bool (!f e)) ∧ Below w.heap.size w w' := by
  have eg := hf.1
  have B0 := hide (below_alloc w (.cells #[.int .i64 e.size, .slice a e.chunks.length c, .string (str e.path), .int .i64 e.kind] 66))
  have hb := World.block_lt_of_cell? w ⟨b, 0, none⟩ h
  have hc := (B0.out.cell (p := ⟨b, 0, none⟩) hb).trans h
  have HF := hide (hf.2 e a c _ he hec (hre.below B0.out) (below_next hw B0.out))
  generalize f e = Z at *
  clear h hf hre
  go_enter Tryz.func105, Tryz.ntmps105
  go_wp2_with fail
  refine HF.out.mono ?_
  rintro r w1 ⟨rfl, hb1⟩
  have B1 := hide (below_next B0.out hb1)
  clear hb1
  go_wp2_with fail
  go_ret
  exact ⟨rfl, B1.out⟩
set_option maxRecDepth 100000 in
set_option maxHeartbeats 800000 in
theorem without_any (a : Option Addr) (c n : Nat) (es : List En) (fn : FuncId) (cap : Array Value) (f : En → Bool) (w : World) (h : RdI w a es) (hn : n = es.length) (hl : es.length ≤ 1048576) (hs : SmallE es) (hf : Asks w fn cap f) :
    Calls Tryz.prog 52 #[.slice a n c, .func (.func fn) #[] cap] w fun r w' => ∃ av cv w1, r = .returned (.slice av (es.filter fun e => !f e).length cv) ∧ LI w1 w' (.slice av (es.filter fun e => !f e).length cv) (es.filter fun e => !f e) ∧ Below w.heap.size w w1 ∧ Below w1.heap.size w1 w' := by
  have hmf : ∀ (fn : Fn) (first cap : Array Value) (w : World), (Instr.makeFunc fn first cap).run Tryz.prog w = .ok (.func fn first cap) w := fun _ _ _ _ => rfl
  subst hn
  have B0 := hide (below_alloc w (.cells #[.func (.func fn) #[] cap] 69))
  have HA : Hid (Asks (w.alloc (.cells #[.func (.func fn) #[] cap] 69)) 105 #[.pointer (some ⟨w.heap.size, 0, none⟩)] (fun e => !f e)) := hide ⟨enters_of Tryz.func105 (by kernel_rfl) rfl, fun e a c w' he hec hre hb =>
    withoutLit_any w.heap.size fn cap f w hf e a c w' he hec hre (below_next B0.out hb) ((hb.cell (p := ⟨w.heap.size, 0, none⟩) (by simp)).trans (by simp))⟩
  have HC := hide (those_any a c es.length es _ _ (fun e => !f e) _ (h.below B0.out) rfl hl hs HA.out)
  clear h hf hs HA
  go_enter Tryz.func52, Tryz.ntmps52
  go_wp2_with fail
  generalize w.alloc (.cells #[.func (.func fn) #[] cap] 69) = W0 at *
  refine HC.out.mono ?_
  rintro r w1 ⟨av, cv, rfl, hL, hb1⟩
  have HL := hide hL
  have B1 := hide hb1
  clear hL hb1 HC
  go_wp2_with fail
  go_ret
  exact ⟨av, cv, W0, rfl, HL.out, B0.out, B1.out⟩
end Go.Proofs.YtebgfaohhhgdpaaGreat

namespace Go.Proofs.YtebgfaohhhgdpaaGreat
open Go.RowKit Go.Maps
set_option linter.unusedVariables false
attribute [local go_sem ↓] Go.wp_at_zero Go.wp_at_succ

theorem find_at {es : List En} {q : Bs} {k : Nat} {e : En} (ha : atE es q = some k) (he : es[k]? = some e) : findE es q = some e := by rw [atE_find, ha]; exact he
end Go.Proofs.YtebgfaohhhgdpaaGreat

