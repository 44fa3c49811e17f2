/-
  Texts put together: OvrP TreR LayT IteR OvrA OvrH OvrJ OvrK OvrO OvrQ.
-/
import Derived.Test.YtejipahfodhmjaaGreatKWhole9
import Derived.Test.YtejipahfodhmjaaGreatKWhole15
import Derived.Test.YtejipahfodhmjaaGreatKWhole5
import Derived.Shelf.Abstract
import Derived.Test.YtejipahfodhmjaaGreatKWhole8
import Derived.Test.YtejipahfodhmjaaGreatKWhole2
import Derived.Test.YtejipahfodhmjaaGreatKWhole1
import Derived.Test.YtejipahfodhmjaaGreatKWhole3
import Derived.Test.YtejipahfodhmjaaGreatKWhole6
import Derived.Test.YtejipahfodhmjaaGreatKWhole7
import Derived.Shelf.SlSortCmp.WholeK
import Derived.Shelf.Small.Bits
import Derived.Ground.SlsfProg
import Derived.Test.YtejipahfodhmjaaGreatProg
import Derived.Test.YtejipahfodhmjaaGreatKWhole14
import Derived.Deep.RegionHeld3
import Derived.Test.YtejipahfodhmjaaGreatKWhole10
namespace Go.Proofs.YtejipahfodhmjaaGreat
set_option linter.unusedVariables false

theorem up_hid {L : List En} (h : Fit L) {q : Bs} (hq : faultP q = 0) : ((above q).any fun u => (findE L u).any fun e => !decide (e.kind = 2)) = hid L q := by
  rw [Bool.eq_iff_iff, hid_iff, List.any_eq_true]
  constructor
  · rintro ⟨u, hu, hr⟩
    cases hf : findE L u with
    | none => rw [hf] at hr; cases hr
    | some e =>
      rw [hf] at hr
      obtain ⟨he, rfl⟩ := find_mem hf
      have hb : isBelow q e.path = true := by simpa [isBelow] using hu
      rw [isBelow_good hq] at hb
      exact ⟨e, he, by simpa using hr, (of_decide_eq_true hb).2⟩
  · rintro ⟨e, he, hk, hb⟩
    refine ⟨e.path, ?_, by rw [rise_find h.rise he]; simpa using hk⟩
    have hb : isBelow q e.path = true := by rw [isBelow_good hq]; exact decide_eq_true ⟨h.path he, hb⟩
    simpa [isBelow] using hb

def allE (ls : List (List En)) : List En := ls.foldl mergeE []
theorem allE_snoc (D : List (List En)) (L : List En) : allE (D ++ [L]) = mergeE (allE D) L := by simp [allE, List.foldl_append]
def sawN (ls : List (List En)) (q : Bs) (n : Nat) : Option En := (seenG (seeL ls) q n).bind fun k => (seeL ls k q).map asT
theorem all_view {ls : List (List En)} (h : ∀ es ∈ ls, Fit es) : ∀ n, n ≤ ls.length → FitT (allE (ls.take n)) ∧ ∀ q, faultP q = 0 → findE (allE (ls.take n)) q = sawN ls q n
  | 0, _ => ⟨by simpa [allE] using fitT_nil, fun q _ => by simp [allE, sawN, seenG, findE]⟩
  | n + 1, hn => by
    obtain ⟨ih1, ih2⟩ := all_view h n (by omega)
    have hL : ls[n]? = some (ls[n]'(by omega)) := List.getElem?_eq_getElem (by omega)
    have hm := List.mem_of_getElem? hL
    generalize ls[n]'(by omega) = L at *
    have ht : ls.take (n + 1) = ls.take n ++ [L] := by rw [List.take_add_one, hL]; rfl
    rw [ht, allE_snoc]
    have hF := h L hm
    refine ⟨merge_fit ih1 hF, fun q hq => ?_⟩
    rw [merge_find ih1 hF]
    have hS : ∀ u, seeL ls n u = findE L u := fun u => by simp [seeL, hL]
    unfold sawN
    cases hf : findE L q with
    | some e =>
      rw [seeT_some hf, seen_hit (by rw [hS]; exact hf)]
      by_cases h3 : e.kind = 3
      · simp [h3]
      · simp [h3, hS, hf]
    | none =>
      rw [seeT_none hf]
      have hu := up_hid hF hq
      cases hh : hid L q
      · rw [seen_down (by rw [hS]; exact hf) (by simp only [hS]; rw [hu, hh]), if_neg (by simp), ih2 q hq]
        rfl
      · rw [seen_hid (by rw [hS]; exact hf) (by simp only [hS]; rw [hu, hh])]
        simp
theorem seen_over {ls : List (List En)} {q : Bs} : ∀ {n : Nat}, ls.length ≤ n → seenG (seeL ls) q n = seenG (seeL ls) q ls.length
  | 0, h => by rw [Nat.le_zero.1 h]
  | n + 1, h => by
    by_cases h1 : ls.length = n + 1
    · rw [h1]
    · have hS : ∀ u, seeL ls n u = none := fun u => by
        have : ls[n]? = none := List.getElem?_eq_none (by omega)
        simp [seeL, this]
      rw [seen_down (hS q) (by rw [List.any_eq_false]; intro u _; rw [hS u]; simp)]
      exact seen_over (by omega)
def sawE (ls : List (List En)) (q : Bs) : Option En := (seenL ls q).bind fun k => (seeL ls k q).map asT
theorem all_fit {ls : List (List En)} (h : ∀ es ∈ ls, Fit es) : FitT (allE ls) := by
  have := (all_view h ls.length (Nat.le_refl _)).1
  rwa [List.take_length] at this
theorem all_find {ls : List (List En)} (h : ∀ es ∈ ls, Fit es) (h4 : ls.length ≤ 4) {q : Bs} (hq : faultP q = 0) : findE (allE ls) q = sawE ls q := by
  have := (all_view h ls.length (Nat.le_refl _)).2 q hq
  rw [List.take_length] at this
  rw [this]
  unfold sawN sawE seenL
  rw [seen_over h4]
theorem rights_fit {ls : List (List En)} (h : ∀ es ∈ ls, Right es) : ∀ es ∈ ls, Fit es := fun es he => (right_fit.1 (h es he)).1
theorem look_all {ls : List (List En)} {p : Bs} (h : askL ls p = 0) : plcC ls p = (if (findE (allE ls) p).isSome then 0 else 4) ∧ lookL ls p = (findE (allE ls) p).toList := by
  obtain ⟨h4, hR, hp⟩ := askL_right h
  rw [all_find (rights_fit hR) h4 hp]
  cases hs : seenL ls p with
  | none =>
    obtain ⟨h1, -, h2⟩ := plc_none h hs
    rw [h1, h2]; simp [sawE, hs]
  | some k =>
    obtain ⟨-, e, he, -⟩ := seen_some (show seenG (seeL ls) p 4 = some k from hs)
    obtain ⟨h1, -, h2⟩ := plc_some h hs he
    rw [h1, h2]; simp [sawE, hs, he]
theorem all_rise {ls : List (List En)} {rs : List En} (h : ∀ es ∈ ls, Right es) (h4 : ls.length ≤ 4) (hr : Rise rs) (hm : ∀ e, e ∈ rs ↔ ∃ k, seenL ls e.path = some k ∧ seeL ls k e.path = some e) : rs.map asT = allE ls := by
  have hF := rights_fit h
  have hr2 : Rise (rs.map asT) := by
    unfold Rise at hr ⊢
    rw [List.pairwise_map]
    exact hr.imp (fun {a b} hab => by rw [asT_path, asT_path]; exact hab)
  have hfa := all_fit hF
  have hpath : ∀ e ∈ rs, faultP e.path = 0 := fun e he => by
    obtain ⟨k, -, h2⟩ := (hm e).1 he
    obtain ⟨es, hes, hee, -⟩ := seeL_mem h2
    exact (hF es hes).path hee
  refine rise_ext hr2 hfa.fit.rise (fun q => ?_)
  by_cases hq : faultP q = 0
  · rw [all_find hF h4 hq]
    unfold sawE
    cases hs : seenL ls q with
    | none =>
      refine find_none (fun x hx => ?_)
      obtain ⟨e, he, rfl⟩ := List.mem_map.1 hx
      obtain ⟨k, h1, -⟩ := (hm e).1 he
      rw [asT_path]
      intro e1
      rw [e1, hs] at h1; cases h1
    | some k =>
      obtain ⟨-, e, he, -⟩ := seen_some (show seenG (seeL ls) q 4 = some k from hs)
      obtain ⟨-, -, -, hpe⟩ := seeL_mem he
      have hmem : e ∈ rs := (hm e).2 ⟨k, by rw [hpe]; exact hs, by rw [hpe]; exact he⟩
      have h1 := rise_find hr2 (List.mem_map.2 ⟨e, hmem, rfl⟩)
      rw [asT_path, hpe] at h1
      rw [h1]; simp [he]
  · rw [find_none, find_none]
    · intro x hx e1; rw [← e1] at hq; exact hq (hfa.fit.path hx)
    · intro x hx e1
      obtain ⟨e, he, rfl⟩ := List.mem_map.1 hx
      rw [asT_path] at e1
      rw [← e1] at hq; exact hq (hpath e he)
theorem all_paths {ls : List (List En)} {rs : List En} (h : rs.map asT = allE ls) : rs.map En.path = (allE ls).map En.path := by
  rw [← h, List.map_map]
  exact List.map_congr_left fun e _ => (asT_path e).symm
end Go.Proofs.YtejipahfodhmjaaGreat

namespace Go.Proofs.YtejipahfodhmjaaGreat
open Go.RowKit Go.Maps
set_option linter.unusedVariables false

def ResN (q : Int) (ns : List Bs) (w : World) (r : Ending) (w' : World) : Prop :=
  ∃ av cv, r = .returned (.agg #[.int .i64 q, .slice av ns.length cv]) ∧ OwnS w.heap.size w' (.slice av ns.length cv) ns ∧ Below w.heap.size w w'
theorem ResN.of {q : Int} {ns : List Bs} {w w3 : World} {B b n : Nat} {av : Option Addr} {cv : Nat} {u v : Value} (hB : b < B) (hw : w.heap.size ≤ b) (hn : n = ns.length) (hG : OwnS B w3 (.slice av n cv) ns) (hb : Below w.heap.size w w3) :
    ResN q ns w (.returned (.agg #[.int .i64 q, .slice av n cv])) ((w3.setCell ⟨b, 0, none⟩ u).setCell ⟨b, 1, none⟩ v) := by
  subst hn
  exact ⟨av, cv, rfl, (hG.kept (Kept.two w3 b 0 1 u v) (fun x h1 h2 => by have := (hG.lt x h1).1; omega)).mono (by omega), (hb.setCell hw _).setCell hw _⟩
theorem ResN.bad {q : Int} {w w3 : World} {b : Nat} {u v : Value} (hw : w.heap.size ≤ b) (hb : Below w.heap.size w w3) :
    ResN q [] w (.returned (.agg #[.int .i64 q, .slice none 0 0])) ((w3.setCell ⟨b, 0, none⟩ u).setCell ⟨b, 1, none⟩ v) :=
  ⟨none, 0, rfl, OwnS.nil _ _, (hb.setCell hw _).setCell hw _⟩
end Go.Proofs.YtejipahfodhmjaaGreat

namespace Go.Proofs.YtejipahfodhmjaaGreat
open Go.RowKit Go.Sort Go.Shelf
set_option linter.unusedVariables false
def Tryz.pdqT_ren : Go.Shelf.Ren := ⟨fun | 14 => 164 | 20 => 191 | 21 => 192 | 22 => 193 | 23 => 194 | 24 => 195 | 25 => 196 | 26 => 197 | 27 => 198 | 46 => 212 | 47 => 207 | 48 => 208 | 49 => 213 | 50 => 214 | 15 => 162 | 57 => 220 | 28 => 189 | 29 => 190 | n => n, fun | 24 => 91 | 22 => 93 | 3 => 3 | 25 => 164 | 4 => 4 | 0 => 0 | 46 => 224 | 45 => 223 | 50 => 229 | 66 => 244 | 39 => 152 | 55 => 233 | 70 => 248 | 76 => 254 | 77 => 255 | 53 => 151 | 5 => 5 | 9 => 9 | n => n, fun | n => n⟩
theorem Tryz.pdqT : Go.Proofs.SlLaysF0.n14 Tryz.prog Tryz.pdqT_ren := {
  mixed := by kernel_rfl
  f14 := ⟨Tryz.f164.name, by decide, Tryz.func164.trans (congrArg some (by kernel_rfl))⟩
  f15 := Tryz.func162.trans (congrArg some (by kernel_rfl))
  f20 := ⟨Tryz.f191.name, by decide, Tryz.func191.trans (congrArg some (by kernel_rfl))⟩
  f21 := ⟨Tryz.f192.name, by decide, Tryz.func192.trans (congrArg some (by kernel_rfl))⟩
  f22 := ⟨Tryz.f193.name, by decide, Tryz.func193.trans (congrArg some (by kernel_rfl))⟩
  f23 := ⟨Tryz.f194.name, by decide, Tryz.func194.trans (congrArg some (by kernel_rfl))⟩
  f24 := ⟨Tryz.f195.name, by decide, Tryz.func195.trans (congrArg some (by kernel_rfl))⟩
  f25 := ⟨Tryz.f196.name, by decide, Tryz.func196.trans (congrArg some (by kernel_rfl))⟩
  f26 := ⟨Tryz.f197.name, by decide, Tryz.func197.trans (congrArg some (by kernel_rfl))⟩
  f27 := ⟨Tryz.f198.name, by decide, Tryz.func198.trans (congrArg some (by kernel_rfl))⟩
  f28 := Tryz.func189.trans (congrArg some (by kernel_rfl))
  f29 := Tryz.func190.trans (congrArg some (by kernel_rfl))
  f46 := ⟨Tryz.f212.name, by decide, Tryz.func212.trans (congrArg some (by kernel_rfl))⟩
  f47 := Tryz.func207.trans (congrArg some (by kernel_rfl))
  f48 := Tryz.func208.trans (congrArg some (by kernel_rfl))
  f49 := ⟨Tryz.f213.name, by decide, Tryz.func213.trans (congrArg some (by kernel_rfl))⟩
  f50 := ⟨Tryz.f214.name, by decide, Tryz.func214.trans (congrArg some (by kernel_rfl))⟩
  f57 := ⟨Tryz.f220.name, by decide, Tryz.func220.trans (congrArg some (by kernel_rfl))⟩
  t0 := Tryz.underlying0
  a0 := Tryz.isAgg0
  z0 := Tryz.sizeOf0
  v0 := Tryz.zeroValue0
  t3 := Tryz.underlying3
  a3 := Tryz.isAgg3
  z3 := Tryz.sizeOf3
  v3 := Tryz.zeroValue3
  t4 := Tryz.underlying4
  a4 := Tryz.isAgg4
  z4 := Tryz.sizeOf4
  v4 := Tryz.zeroValue4
  t5 := Tryz.underlying5
  a5 := Tryz.isAgg5
  z5 := Tryz.sizeOf5
  v5 := Tryz.zeroValue5
  t9 := Tryz.underlying9
  a9 := Tryz.isAgg9
  z9 := Tryz.sizeOf9
  v9 := Tryz.zeroValue9
  t22 := Tryz.underlying93
  a22 := Tryz.isAgg93
  z22 := Tryz.sizeOf93
  v22 := Tryz.zeroValue93
  t25 := Tryz.underlying164
  a25 := Tryz.isAgg164
  z25 := Tryz.sizeOf164
  v25 := Tryz.zeroValue164
  t39 := Tryz.underlying152
  a39 := Tryz.isAgg152
  z39 := Tryz.sizeOf152
  v39 := Tryz.zeroValue152
  t45 := Tryz.underlying223
  a45 := Tryz.isAgg223
  z45 := Tryz.sizeOf223
  v45 := Tryz.zeroValue223
  t46 := Tryz.underlying224
  a46 := Tryz.isAgg224
  z46 := Tryz.sizeOf224
  v46 := Tryz.zeroValue224
  t50 := Tryz.underlying229
  a50 := Tryz.isAgg229
  z50 := Tryz.sizeOf229
  v50 := Tryz.zeroValue229
  t53 := Tryz.underlying151
  a53 := Tryz.isAgg151
  z53 := Tryz.sizeOf151
  v53 := Tryz.zeroValue151
  t55 := Tryz.underlying233
  a55 := Tryz.isAgg233
  z55 := Tryz.sizeOf233
  v55 := Tryz.zeroValue233
  t66 := Tryz.underlying244
  a66 := Tryz.isAgg244
  z66 := Tryz.sizeOf244
  v66 := Tryz.zeroValue244
  t70 := Tryz.underlying248
  a70 := Tryz.isAgg248
  z70 := Tryz.sizeOf248
  v70 := Tryz.zeroValue248
  t76 := Tryz.underlying254
  a76 := Tryz.isAgg254
  z76 := Tryz.sizeOf254
  v76 := Tryz.zeroValue254
  t77 := Tryz.underlying255
  a77 := Tryz.isAgg255
  z77 := Tryz.sizeOf255
  v77 := Tryz.zeroValue255 }
def Tryz.lenT_ren : Go.Shelf.Ren := ⟨fun | 125 => 162 | 128 => 189 | 129 => 190 | n => n, fun | 46 => 152 | 3 => 3 | 51 => 151 | 53 => 233 | 4 => 4 | 5 => 5 | 9 => 9 | n => n, fun | n => n⟩
theorem Tryz.lenT : Go.Proofs.Lays.n125 Tryz.prog Tryz.lenT_ren := {
  mixed := by kernel_rfl
  f125 := Tryz.func162.trans (congrArg some (by kernel_rfl))
  f128 := Tryz.func189.trans (congrArg some (by kernel_rfl))
  f129 := Tryz.func190.trans (congrArg some (by kernel_rfl))
  t3 := Tryz.underlying3
  a3 := Tryz.isAgg3
  z3 := Tryz.sizeOf3
  v3 := Tryz.zeroValue3
  t4 := Tryz.underlying4
  a4 := Tryz.isAgg4
  z4 := Tryz.sizeOf4
  v4 := Tryz.zeroValue4
  t5 := Tryz.underlying5
  a5 := Tryz.isAgg5
  z5 := Tryz.sizeOf5
  v5 := Tryz.zeroValue5
  t9 := Tryz.underlying9
  a9 := Tryz.isAgg9
  z9 := Tryz.sizeOf9
  v9 := Tryz.zeroValue9
  t46 := Tryz.underlying152
  a46 := Tryz.isAgg152
  z46 := Tryz.sizeOf152
  v46 := Tryz.zeroValue152
  t51 := Tryz.underlying151
  a51 := Tryz.isAgg151
  z51 := Tryz.sizeOf151
  v51 := Tryz.zeroValue151
  t53 := Tryz.underlying233
  a53 := Tryz.isAgg233
  z53 := Tryz.sizeOf233
  v53 := Tryz.zeroValue233 }
end Go.Proofs.YtejipahfodhmjaaGreat

namespace Go.Proofs.YtejipahfodhmjaaGreat
open Go.RowKit Go.Sort
set_option linter.unusedVariables false

def cmpB (a b : Bs) : Int := if Op.bytesLess a b then -1 else if Op.bytesLess b a then 1 else 0
theorem cmpB_lt (a b : Bs) : decide (cmpB a b < 0) = Op.bytesLess a b := by
  unfold cmpB
  cases h : Op.bytesLess a b
  · cases h2 : Op.bytesLess b a <;> rfl
  · rfl

theorem isNaN_any (s : ByteArray) (w : World) : Calls Tryz.prog 165 #[.string s] w fun e w' => e = .returned (.bool false) ∧ w' = w := by
  go_enter Tryz.func165, Tryz.ntmps165
  go_wp2
  go_ret
  exact ⟨by simp, rfl⟩
set_option maxHeartbeats 800000 in
theorem compare_any (p q : Bs) (w : World) : Calls Tryz.prog 141 #[.string (str p), .string (str q)] w fun e w' => e = .returned (.int .i64 (cmpB p q)) ∧ w' = w := by
  obtain ⟨F, hF⟩ : ∃ F : Int, F = cmpB p q := ⟨_, rfl⟩
  rw [← hF]
  cases h1 : Op.bytesLess (str p).toList (str q).toList
  · by_cases hpq : p = q
    · have hs1 := str_yes hpq
      have HE := hide (show F = 0 from by rw [hF, cmpB, hpq, bl_irrefl]; rfl)
      clear hF hpq
      go_enter Tryz.func141, Tryz.ntmps141
      go_wp2_with (go_at_call 165; refine (isNaN_any _ _).mono ?_; rintro e w' ⟨rfl, rfl⟩)
      go_ret
      exact ⟨ret_int HE.out.symm, rfl⟩
    · have hs1 := str_no hpq
      have HE := hide (show F = 1 from by
        rw [str_toList, str_toList] at h1
        rw [hF, cmpB, h1, bl_total _ _ h1 hpq]; rfl)
      clear hF hpq
      go_enter Tryz.func141, Tryz.ntmps141
      go_wp2_with (go_at_call 165; refine (isNaN_any _ _).mono ?_; rintro e w' ⟨rfl, rfl⟩)
      go_ret
      exact ⟨ret_int HE.out.symm, rfl⟩
  · have HE := hide (show F = -1 from by rw [hF, cmpB]; rw [str_toList, str_toList] at h1; rw [h1]; rfl)
    clear hF
    go_enter Tryz.func141, Tryz.ntmps141
    go_wp2_with (go_at_call 165; refine (isNaN_any _ _).mono ?_; rintro e w' ⟨rfl, rfl⟩)
    go_ret
    exact ⟨ret_int HE.out.symm, rfl⟩
set_option maxHeartbeats 800000 in
theorem sortLit_any (x y : Rw) (W : World) : Calls Tryz.prog 102 #[.agg (cellsI x).toArray, .agg (cellsI y).toArray] W fun e w' => e = .returned (.int .i64 (cmpB x.e.path y.e.path)) ∧ ∃ q os', w' = grow (W.drewN q) os' := by
  have hcon := fun W' => compare_any x.e.path y.e.path W'
  generalize cmpB x.e.path y.e.path = r at hcon ⊢
  show Calls Tryz.prog 102 #[.agg #[.int .i64 x.e.size, .slice x.a x.e.chunks.length x.c, .string (str x.e.path), .int .i64 x.e.kind], .agg #[.int .i64 y.e.size, .slice y.a y.e.chunks.length y.c, .string (str y.e.path), .int .i64 y.e.kind]] W _
  go_enter Tryz.func102, Tryz.ntmps102
  go_wp2_with (go_at_call 141; refine (hcon _).mono ?_; rintro e w' ⟨rfl, rfl⟩)
  go_ret
  exact ⟨rfl, 0, _, by rw [alloc_eq_grow, alloc_eq_grow, grow_grow]; rfl⟩

theorem rise_unique : ∀ {l1 l2 : List Rw}, l1.Perm l2 → l1.Pairwise (fun x y => Op.bytesLess x.e.path y.e.path = true) → l2.Pairwise (fun x y => Op.bytesLess x.e.path y.e.path = true) → l1 = l2
  | [], l2, hp, _, _ => hp.symm.eq_nil.symm
  | a :: l1, [], hp, _, _ => by have := hp.length_eq; simp at this
  | a :: l1, b :: l2, hp, h1, h2 => by
    have p1 := List.pairwise_cons.1 h1
    have p2 := List.pairwise_cons.1 h2
    have hab : a = b := by
      have ha : a ∈ b :: l2 := hp.subset List.mem_cons_self
      have hb : b ∈ a :: l1 := hp.symm.subset List.mem_cons_self
      rcases List.mem_cons.1 ha with h | ha
      · exact h
      · rcases List.mem_cons.1 hb with h | hb
        · exact h.symm
        · have q1 := p2.1 a ha
          have q2 := p1.1 b hb
          rw [bl_asymm q1] at q2
          cases q2
    subst hab
    rw [rise_unique (List.Perm.cons_inv hp) p1.2 p2.2]

theorem swo_path : SWO (ltOf fun x y : Rw => cmpB x.e.path y.e.path) := by
  have e : ∀ x y : Rw, ltOf (fun x y : Rw => cmpB x.e.path y.e.path) x y = Op.bytesLess x.e.path y.e.path := fun x y => cmpB_lt _ _
  refine ⟨fun x => by rw [e, bl_irrefl], fun x y z => by rw [e, e, e]; exact bl_trans _ _ _, fun x y z => ?_⟩
  rw [e, e, e]
  intro h1 h2
  cases h3 : Op.bytesLess x.e.path z.e.path
  · rfl
  · by_cases h4 : y.e.path = z.e.path
    · rw [h4] at h1; rw [h1] at h3; cases h3
    · have := bl_trans _ _ _ h3 (bl_total _ _ h2 h4)
      rw [h1] at this; cases this

end Go.Proofs.YtejipahfodhmjaaGreat

namespace Go.Proofs.YtejipahfodhmjaaGreat
open Go.RowKit Go.Maps
set_option linter.unusedVariables false
attribute [local go_sem ↓] Go.wp_at_zero Go.wp_at_succ

set_option maxRecDepth 100000 in
set_option maxHeartbeats 3200000 in
theorem specLayersFault_any (a : Option Addr) (c n : Nat) (ls : List (List En)) (w : World) (h : RdL w a ls) (hn : n = ls.length) (hl : ls.length ≤ 1048576) (hs : SmallL ls) (hg : ∀ es ∈ ls, layFault es = layFaultP es) :
    Calls Tryz.prog 62 #[.slice a n c] w fun r w' => r = .returned (.int .i64 (layersP ls)) ∧ Below w.heap.size w w' := by
  subst hn
  have HR := hide h
  have HS := hide hs
  have HG := hide hg
  clear h hs hg
  by_cases h4 : 4 < ls.length
  · have HZ := hide (show layersP ls = 2 by simp [layersP, h4])
    have h4' : (4 : Int) < (ls.length : Int) := by omega
    go_enter Tryz.func62, Tryz.ntmps62
    go_wp2_with fail
    go_wp2_with fail
    go_ret
    exact ⟨by rw [HZ.out]; rfl, Below.refl _ _⟩
  · have HZ := hide (show layersP ls = lsFrom (ls.drop 0) by simp [layersP, h4])
    have h4' : ¬ (4 : Int) < (ls.length : Int) := by omega
    clear h4
    generalize layersP ls = V at *
    go_enter Tryz.func62, Tryz.ntmps62
    go_wp2_with fail
    go_loopw [3] (fun i wr => ∃ k : Nat, k ≤ ls.length ∧ i = .int .i64 k ∧ Hid (V = lsFrom (ls.drop k)) ∧ Hid (Below w.heap.size w wr)) (fun i _ => ls.length - (intOf i).toNat)
    case atStart => exact ⟨0, Nat.zero_le _, rfl, HZ, hide (Below.refl _ _)⟩
    case round =>
      obtain ⟨k, hk, rfl, HV, HW⟩ := hrel
      by_cases hlt : k < ls.length
      · obtain ⟨b, off, es, x, cc, rfl, hb, he, c0, hr⟩ := (HR.out.below HW.out).at hlt
        obtain ⟨hel, hsm⟩ := HS.out es (List.mem_of_getElem? he)
        have HLF := hide (l4Fault_any x cc es.length es wr hr rfl (by omega) hsm)
        rw [HG.out es (List.mem_of_getElem? he)] at HLF
        have HX := hide he
        clear he hr hsm
        by_cases hf : layFaultP es = 0
        · have HN := hide (HV.out.trans (lsFrom_next HX.out hf))
          rw [hf] at HLF
          clear hf
          go_wp2_with fail
          refine HLF.out.mono ?_
          rintro r w1 ⟨rfl, hb1⟩
          have B1 := hide (below_next HW.out hb1)
          clear hb1 c0
          go_wp2_with fail
          go_roundw
          case rel => exact ⟨k + 1, by omega, by go_num, HN, B1⟩
          case measure => simp [intOf]; omega
        · have HN := hide (HV.out.trans (lsFrom_bad HX.out hf))
          generalize layFaultP es = F at *
          have hf2 : (F != 0) = true := by simp; exact hf
          clear hf
          go_wp2_with fail
          refine HLF.out.mono ?_
          rintro r w1 ⟨rfl, hb1⟩
          have B1 := hide (below_next HW.out hb1)
          clear hb1 c0
          go_wp2_with fail
          go_ret
          exact ⟨by rw [HN.out]; rfl, B1.out⟩
      · have HN := hide (show V = 0 by rw [HV.out, List.drop_eq_nil_of_le (by omega)]; rfl)
        go_wp2_with fail
        go_ret
        exact ⟨by rw [HN.out]; rfl, HW.out⟩
end Go.Proofs.YtejipahfodhmjaaGreat

namespace Go.Proofs.YtejipahfodhmjaaGreat
open Go.RowKit Go.Maps
set_option linter.unusedVariables false
attribute [local go_sem ↓] Go.wp_at_zero Go.wp_at_succ

theorem over_is_two {es : List En} {ups : List Bs} (h : overN es ups = 2) : ∃ u ∈ ups, rankE es u = 2 := by
  unfold overN at h
  split at h
  · rename_i h2
    obtain ⟨u, hu, hr⟩ := List.any_eq_true.1 h2
    exact ⟨u, hu, of_decide_eq_true hr⟩
  · split at h <;> omega
theorem rank_is_two {es : List En} {u : Bs} (h : rankE es u = 2) : ∃ d, findE es u = some d ∧ (d.kind = 3 ∨ d.kind = 1) := by
  unfold rankE at h
  cases hf : findE es u with
  | none => rw [hf] at h; simp at h
  | some d =>
    rw [hf] at h
    refine ⟨d, rfl, ?_⟩
    by_cases hk : d.kind = 3 ∨ d.kind = 1
    · exact hk
    · simp only [hk, if_false] at h
      split at h <;> omega
theorem over_there {es : List En} (h : Right es) {p : Bs} (hp : faultP p = 0) {e : En} (he : findE es p = some e) : overN es (above p) ≠ 2 := by
  intro h2
  obtain ⟨u, hu, hr⟩ := over_is_two h2
  obtain ⟨d, hd, hk⟩ := rank_is_two hr
  have hb : isBelow p u = true := by simpa [isBelow] using hu
  rw [isBelow_good hp] at hb
  obtain ⟨hpu, hbl⟩ := of_decide_eq_true hb
  obtain ⟨hem, rfl⟩ := find_mem he
  obtain ⟨d', hd', hpd, hk'⟩ := (right_fit.1 h).1.up hpu hem hbl
  have h3 := rise_find h.rise hd'
  rw [hpd, hd] at h3
  cases h3
  simp only [dirK, decide_eq_true_eq] at hk'
  omega
theorem up_over {es : List En} (h : Right es) (p : Bs) : ((above p).any fun u => (findE es u).any fun e => !decide (e.kind = 2)) = decide (overN es (above p) ≠ 0) := by
  rw [Bool.eq_iff_iff, decide_eq_true_iff, over_zero, List.any_eq_true]
  constructor
  · rintro ⟨u, hu, hr⟩
    have : hideAt es u = true := hr
    rw [rank_hide h] at this
    exact ⟨u, hu, of_decide_eq_true this⟩
  · rintro ⟨u, hu, hr⟩
    exact ⟨u, hu, by have : hideAt es u = true := by rw [rank_hide h]; exact decide_eq_true hr
                     exact this⟩
theorem seeL_at {ls : List (List En)} {m : Nat} {es : List En} (h : ls[m]? = some es) (q : Bs) : seeL ls m q = findE es q := by simp [seeL, h]
theorem seen_up {ls : List (List En)} {m : Nat} {es : List En} (h : ls[m]? = some es) (hR : Right es) {p : Bs} (hn : findE es p = none) (ho : overN es (above p) ≠ 0) : seenG (seeL ls) p (m + 1) = none := by
  refine seen_hid (by rw [seeL_at h]; exact hn) ?_
  have := up_over hR p
  rw [decide_eq_true ho] at this
  rw [← this]
  simp only [seeL_at h]
theorem seen_on {ls : List (List En)} {m : Nat} {es : List En} (h : ls[m]? = some es) (hR : Right es) {p : Bs} (hn : findE es p = none) (ho : overN es (above p) = 0) : seenG (seeL ls) p (m + 1) = seenG (seeL ls) p m := by
  refine seen_down (by rw [seeL_at h]; exact hn) ?_
  have := up_over hR p
  rw [decide_eq_false (by omega)] at this
  rw [← this]
  simp only [seeL_at h]

set_option maxRecDepth 100000 in
set_option maxHeartbeats 6400000 in
theorem l8Place_any (a : Option Addr) (c n : Nat) (ls : List (List En)) (p : Bs) (w : World) (h : RdL w a ls) (hn : n = ls.length) (h4 : ls.length ≤ 4) (hR : ∀ es ∈ ls, Right es) (hp : faultP p = 0) (hpl : p.length ≤ 1048576) :
    Calls Tryz.prog 63 #[.slice a n c, .string (str p)] w fun r w' => r = .returned (.int .i64 (placeI (seenL ls p))) ∧ Below w.heap.size w w' := by
  subst hn
  have HR := hide h
  have HRi := hide hR
  have HV0 := hide (show seenL ls p = seenG (seeL ls) p ls.length from seen_over h4)
  have hw1 : IntKind.i64.wrap ((ls.length : Int) - 1) = (ls.length : Int) - 1 := by simp [IntKind.wrap, IntKind.signed, IntKind.bits]; omega
  clear h hR
  generalize hV : seenL ls p = V at *
  clear hV
  go_enter Tryz.func63, Tryz.ntmps63
  go_wp2_with fail
  go_loopw [5] (fun i wr => ∃ k : Nat, k ≤ ls.length ∧ i = .int .i64 ((k : Int) - 1) ∧ Hid (V = seenG (seeL ls) p k) ∧ Hid (Below w.heap.size w wr)) (fun i _ => (intOf i + 1).toNat)
  case atStart => exact ⟨ls.length, Nat.le_refl _, rfl, HV0, hide (Below.refl _ _)⟩
  case round =>
    obtain ⟨k, hk, hi, HV, HW⟩ := hrel
    cases k with
    | zero =>
      rw [show ((0 : Nat) : Int) - 1 = -1 from rfl] at hi
      subst hi
      have HN := hide (show V = none from HV.out)
      go_wp2_with fail
      go_ret
      exact ⟨by rw [HN.out]; rfl, HW.out⟩
    | succ m =>
      rw [show ((m + 1 : Nat) : Int) - 1 = (m : Int) from by omega] at hi
      subst hi
      have hm0 : (0 : Int) ≤ (m : Int) := by omega
      have hm1 : (m : Int) < (ls.length : Int) := by omega
      have hm2 : IntKind.i64.wrap ((m : Int) - 1) = (m : Int) - 1 := by simp [IntKind.wrap, IntKind.signed, IntKind.bits]; omega
      obtain ⟨b, off, es, x, cc, rfl, hb, he, c0, hr⟩ := (HR.out.below HW.out).at (k := m) (by omega)
      have hRi := HRi.out es (List.mem_of_getElem? he)
      have hel := hRi.len
      have HX := hide he
      have HRI := hide hRi
      have HOV := hide (l8Over_any x cc es.length es p wr hr rfl (by omega) hp hpl)
      have HAT : Hid (∀ w', Below wr.heap.size wr w' → Calls Tryz.prog 78 #[.slice x es.length cc, .string (str p)] w' fun r w2 => r = .returned (.int .i64 (placeI (atE es p))) ∧ w2 = w') := hide (fun w' hb' => l4At_any x cc es.length es p w' (hr.below hb') rfl (by omega))
      have HRE := hide hr
      have KC : Hid (∀ w', Below wr.heap.size wr w' → w'.cell? ⟨b, off + m, none⟩ = some (.slice x es.length cc)) := hide (fun w' hb' => (hb'.cell (p := ⟨b, off + m, none⟩) hb).trans c0)
      clear he hRi hr
      cases ha : atE es p with
      | none =>
        have hf := find_at_none ha
        rw [ha] at HAT
        have e1 : placeI none = -1 := rfl
        rw [e1] at HAT
        clear ha e1
        rcases over_cases es (above p) with ho | ho | ho
        · have HN := hide (HV.out.trans (seen_on HX.out HRI.out hf ho))
          rw [ho] at HOV
          clear hf ho
          go_wp2_with fail
          refine HOV.out.mono ?_
          rintro r w1 ⟨rfl, hb1⟩
          have B1 := hide hb1
          have c1 := KC.out w1 hb1
          clear hb1 c0
          go_wp2_with fail
          refine (HAT.out w1 B1.out).mono ?_
          rintro r w2 ⟨rfl, rfl⟩
          go_wp2_with fail
          go_roundw
          case rel => exact ⟨m, by omega, rfl, HN, hide (below_next HW.out B1.out)⟩
          case measure => simp [intOf]
        · have HN := hide (HV.out.trans (seen_up HX.out HRI.out hf (by omega)))
          rw [ho] at HOV
          clear hf ho
          go_wp2_with fail
          refine HOV.out.mono ?_
          rintro r w1 ⟨rfl, hb1⟩
          have B1 := hide hb1
          have c1 := KC.out w1 hb1
          clear hb1 c0
          go_wp2_with fail
          refine (HAT.out w1 B1.out).mono ?_
          rintro r w2 ⟨rfl, rfl⟩
          go_wp2_with fail
          go_ret
          exact ⟨by rw [HN.out]; rfl, below_next HW.out B1.out⟩
        · have HN := hide (HV.out.trans (seen_up HX.out HRI.out hf (by omega)))
          rw [ho] at HOV
          clear hf ho
          go_wp2_with fail
          refine HOV.out.mono ?_
          rintro r w1 ⟨rfl, hb1⟩
          have B1 := hide hb1
          clear hb1 c0
          go_wp2_with fail
          go_ret
          exact ⟨by rw [HN.out]; rfl, below_next HW.out B1.out⟩
      | some q =>
        obtain ⟨e, he, hf⟩ := find_at_some ha
        have hq := atE_lt ha
        have hno := over_there HRI.out hp hf
        have HHit := hide (HV.out.trans (seen_hit (by rw [seeL_at HX.out]; exact hf)))
        rw [ha] at HAT
        have e1 : placeI (some q) = (q : Int) := rfl
        rw [e1] at HAT
        have hq0 : (0 : Int) ≤ (q : Int) := by omega
        have hq1 : (q : Int) < (es.length : Int) := by omega
        obtain ⟨bb, off2, e', x', cc', rfl, hb2, he', z0, z1, z2, z3, hr'⟩ := HRE.out.at hq
        have : e' = e := Option.some.inj (he'.symm.trans he)
        subst this
        have KZ : Hid (∀ w', Below wr.heap.size wr w' → w'.cell? ⟨bb, off2 + q * 4 + 1, none⟩ = some (.int .i64 e'.kind)) := hide (fun w' hb' => (hb'.cell (p := ⟨bb, off2 + q * 4 + 1, none⟩) hb2).trans z1)
        have h2 : (overN es (above p) == 2) = false := by simpa using hno
        generalize overN es (above p) = O at *
        clear ha e1 he he' hr' z0 z1 z2 z3 hno hf
        by_cases h3 : e'.kind = 3
        · rw [if_pos h3] at HHit
          have h3' : (e'.kind == 3) = true := by simpa using h3
          clear h3
          go_wp2_with fail
          refine HOV.out.mono ?_
          rintro r w1 ⟨rfl, hb1⟩
          have B1 := hide hb1
          have c1 := KC.out w1 hb1
          have z1 := KZ.out w1 hb1
          clear hb1 c0
          go_wp2_with fail
          refine (HAT.out w1 B1.out).mono ?_
          rintro r w2 ⟨rfl, rfl⟩
          go_wp2_with fail
          go_ret
          exact ⟨by rw [HHit.out]; rfl, below_next HW.out B1.out⟩
        · rw [if_neg h3] at HHit
          have h3' : (e'.kind == 3) = false := by simpa using h3
          clear h3
          go_wp2_with fail
          refine HOV.out.mono ?_
          rintro r w1 ⟨rfl, hb1⟩
          have B1 := hide hb1
          have c1 := KC.out w1 hb1
          have z1 := KZ.out w1 hb1
          clear hb1 c0
          go_wp2_with fail
          refine (HAT.out w1 B1.out).mono ?_
          rintro r w2 ⟨rfl, rfl⟩
          go_wp2_with fail
          go_ret
          exact ⟨by rw [HHit.out]; rfl, below_next HW.out B1.out⟩
set_option maxRecDepth 100000 in
set_option maxHeartbeats 1600000 in
theorem l8In_any (a : Option Addr) (c n : Nat) (ps : List Bs) (p : Bs) (w : World) (h : ReadsS w a ps) (hn : n = ps.length) (hl : ps.length ≤ 1048576) :
    Calls Tryz.prog 64 #[.slice a n c, .string (str p)] w fun r w' => r = .returned (.bool (decide (p ∈ ps))) ∧ w' = w := by
  subst hn
  have HR := hide h
  clear h
  go_enter Tryz.func64, Tryz.ntmps64
  go_wp2_with fail
  go_loopw [5] (fun i wr => ∃ k : Nat, k ≤ ps.length ∧ i = .int .i64 k ∧ wr = w ∧ Hid (p ∉ ps.take k)) (fun i _ => ps.length - (intOf i).toNat)
  case atStart => exact ⟨0, Nat.zero_le _, rfl, rfl, hide (by simp)⟩
  case round =>
    obtain ⟨k, hk, rfl, rfl, HN⟩ := hrel
    by_cases hlt : k < ps.length
    · obtain ⟨b, off, q, rfl, hb, he, c0⟩ := HR.out.at hlt
      have hk0 : (0 : Int) ≤ (k : Int) := by omega
      have hk1 : (k : Int) < (ps.length : Int) := by omega
      by_cases hq : q = p
      · have hq2 := str_yes hq
        have HT := hide (show decide (p ∈ ps) = true from decide_eq_true (by rw [← hq]; exact List.mem_of_getElem? he))
        clear hq he
        go_wp2_with fail
        go_ret
        exact ⟨by rw [HT.out]; rfl, rfl⟩
      · have hq2 := str_no hq
        have HT := hide (show p ∉ ps.take (k + 1) from by
          rw [take_at he]
          intro hm
          rcases List.mem_append.1 hm with hm | hm
          · exact HN.out hm
          · simp at hm; exact hq hm.symm)
        clear hq he
        go_wp2_with fail
        go_roundw
        case rel => exact ⟨k + 1, by omega, by go_num, (by first | rfl | trivial), HT⟩
        case measure => simp [intOf]; omega
    · have HT := hide (show decide (p ∈ ps) = false from decide_eq_false (by have := HN.out; rwa [List.take_of_length_le (by omega)] at this))
      go_wp2_with fail
      go_ret
      exact ⟨by rw [HT.out]; rfl, rfl⟩
end Go.Proofs.YtejipahfodhmjaaGreat

namespace Go.Proofs.YtejipahfodhmjaaGreat
set_option linter.unusedVariables false

theorem snocInd {α : Type} {motive : List α → Prop} (nil : motive []) (snoc : ∀ (l : List α) (x : α), motive l → motive (l ++ [x])) (l : List α) : motive l := by
  have h : ∀ r : List α, motive r.reverse := by
    intro r
    induction r with
    | nil => exact nil
    | cons x r ih => rw [List.reverse_cons]; exact snoc _ _ ih
  have h2 := h l.reverse
  rwa [List.reverse_reverse] at h2
def RiseS (ns : List Bs) : Prop := ns.Pairwise fun x y => Op.bytesLess x y = true
def mkE (n : Bs) : En := ⟨n, 0, 0, []⟩
theorem riseS_mk {ns : List Bs} : Rise (ns.map mkE) ↔ RiseS ns := by
  unfold Rise RiseS
  rw [List.pairwise_map]
  exact Iff.rfl
theorem map_mk_path (ns : List Bs) : (ns.map mkE).map En.path = ns := by
  rw [List.map_map]
  conv => rhs; rw [← List.map_id ns]
  exact List.map_congr_left fun _ _ => rfl
theorem riseS_ext {a b : List Bs} (ha : RiseS a) (hb : RiseS b) (h : ∀ x, x ∈ a ↔ x ∈ b) : a = b := by
  have h1 : a.map mkE = b.map mkE := by
    have hra := riseS_mk.2 ha
    have hrb := riseS_mk.2 hb
    refine rise_ext hra hrb (fun q => ?_)
    by_cases hq : q ∈ a
    · have e1 := rise_find hra (List.mem_map.2 ⟨q, hq, rfl⟩)
      have e2 := rise_find hrb (List.mem_map.2 ⟨q, (h q).1 hq, rfl⟩)
      exact e1.trans e2.symm
    · have hq2 : q ∉ b := fun hb => hq ((h q).2 hb)
      rw [find_none (fun x hx e => ?_), find_none (fun x hx e => ?_)]
      · obtain ⟨y, hy, rfl⟩ := List.mem_map.1 hx
        exact hq2 (by rw [← e]; exact hy)
      · obtain ⟨y, hy, rfl⟩ := List.mem_map.1 hx
        exact hq (by rw [← e]; exact hy)
  rw [← map_mk_path a, ← map_mk_path b, h1]
theorem putS_mk (ps : List Bs) (p : Bs) : (putS ps p).map mkE = putAt (ps.map mkE) (mkE p) := by
  have h1 : lowN (ps.map mkE) p = lowS ps p := by
    unfold lowN lowS
    rw [List.takeWhile_map, List.length_map]
    rfl
  unfold putS putAt
  rw [show (mkE p).path = p from rfl, h1]
  simp
theorem mem_putS {ps : List Bs} {p x : Bs} : x ∈ putS ps p ↔ x = p ∨ x ∈ ps := by
  have h1 : mkE x ∈ (putS ps p).map mkE ↔ x ∈ putS ps p := by
    constructor
    · intro h
      obtain ⟨y, hy, he⟩ := List.mem_map.1 h
      have : y = x := congrArg En.path he
      rw [← this]; exact hy
    · exact fun h => List.mem_map.2 ⟨x, h, rfl⟩
  rw [← h1, putS_mk, mem_putAt]
  constructor
  · rintro (h | h)
    · exact .inl (congrArg En.path h)
    · obtain ⟨y, hy, he⟩ := List.mem_map.1 h
      have : y = x := congrArg En.path he
      exact .inr (by rw [← this]; exact hy)
  · rintro (h | h)
    · exact .inl (by rw [h])
    · exact .inr (List.mem_map.2 ⟨x, h, rfl⟩)
theorem riseS_put {ps : List Bs} {p : Bs} (h : RiseS ps) (hn : p ∉ ps) : RiseS (putS ps p) := by
  rw [← riseS_mk, putS_mk]
  refine rise_putAt (riseS_mk.2 h) (fun x hx e => ?_)
  obtain ⟨y, hy, rfl⟩ := List.mem_map.1 hx
  have : y = p := e
  exact hn (by rw [← this]; exact hy)
end Go.Proofs.YtejipahfodhmjaaGreat

namespace Go.Proofs.YtejipahfodhmjaaGreat
open Go.RowKit Go.Maps
set_option linter.unusedVariables false
attribute [local go_sem ↓] Go.wp_at_zero Go.wp_at_succ

theorem wpList_append_one_at {P : Program} {wr : World} {news : Array Value} {ops : Array Oper} {rest : List Oper} {o : Oper} {a : Act} {Q : Exit → Act → World → Prop} (hgd : o.guard = none) (s x : Operand) (t : TypeId)
    (ho : o.op = .call { callee := .builtin .append, args := #[s, x], argTypes := #[t, t] })
    (base : Nat) (e : TypeId) (i : TypeInfo) (z : Value) (size bytes : Nat) (ht : P.underlying t = some (.slice e)) (hi : P.info? e = some i) (hz : i.zero = some z)
    (hsize : i.size = size) (hby : i.bytes = bytes) (hzs : z.cells.size = size) (hsz : 0 < size)
    (v : Value) (n : Nat) (xs : List Value) (hs : a.eval s = v) (hown : wr.ownsRow base e size v n xs)
    (hx : a.eval x = .slice (some ⟨wr.heap.size, 0, none⟩) 1 1) (hl : news.size = size) (h1 : ∀ u ∈ news.toList, u.oneCell' = true)
    (h63 : n + 1 ≤ maxLen) (hbytes : (n + 1) * bytes ≤ 140737488355328) (hbase : base ≤ wr.heap.size)
    (h : ∀ v' w', w'.ownsRow base e size v' (n + 1) (xs ++ news.toList) → Kept (fun b => v.ownBlock = some b) wr w' → (v'.ownBlock = v.ownBlock ∨ ∃ g, v'.ownBlock = some g ∧ wr.heap.size ≤ g) → wpList P ops Q rest (a.put o.dst v') w') :
    wpList P ops Q (o :: rest) a (wr.alloc (.cells news e)) := by
  refine wpList_append_own_at _ hgd s x t ho base e i z size bytes ht hi hz hsize hby hzs hsz v n xs hs (hown.alloc _) ⟨wr.heap.size, 0, none⟩ 1 1 news.toList hx (by simp [hl]) ?_ h1 h63 hbytes (by simp; omega) ?_
  · intro j u hj
    have hadd : (⟨wr.heap.size, 0, none⟩ : Addr).add j = ⟨wr.heap.size, j, none⟩ := by unfold Addr.add; split <;> simp_all
    rw [hadd, cell_of_row _ wr.heap.size j news e (0, 0) (heap_alloc_new wr _)]
    simpa using hj
  · intro v' w' ho' hg _ hat
    refine h v' w' ho' ⟨hg.os, hg.tape, hg.output, Nat.le_trans (by simp) hg.size, fun k hk hn => ?_⟩ ?_
    · rw [hg.block k (by simp; omega) (fun e => hn e.symm)]
      exact Below.heap_alloc _ _ _ hk
    · rcases hat with hat | hat
      · exact .inl hat
      · exact .inr ⟨_, hat, by simp⟩

end Go.Proofs.YtejipahfodhmjaaGreat

namespace Go.Proofs.YtejipahfodhmjaaGreat
open Go.RowKit Go.Maps
set_option linter.unusedVariables false
attribute [local go_sem ↓] Go.wp_at_zero Go.wp_at_succ

def LookYes (e : En) (w : World) (r : Ending) (w' : World) : Prop :=
  ∃ x c, r = .returned (.tuple #[.agg #[.string (str e.path), .int .i64 e.kind, .int .i64 e.size, .slice x e.chunks.length c], .bool true]) ∧ w'.ownsRow w.heap.size 2 1 (.slice x e.chunks.length c) e.chunks.length (e.chunks.map (Value.int .i64)) ∧ Below w.heap.size w w'

def Eight (w : World) (b : Nat) (u0 u1 u2 u3 : Value) : Prop := Four w b u0 u1 u2 u3 ∧ ∀ i, w.frozen? ⟨b, i, none⟩ = false
theorem Eight.new (w : World) (u0 u1 u2 u3 : Value) (t : TypeId) : Eight (w.alloc (.cells #[u0, u1, u2, u3] t)).drew w.heap.size u0 u1 u2 u3 :=
  ⟨(Four.new w u0 u1 u2 u3 t).below (Below.refl _ _).drew, fun i => ((Below.refl (w.alloc (.cells #[u0, u1, u2, u3] t)).heap.size _).drew.frozen (p := ⟨w.heap.size, i, none⟩) (by simp)).trans (by simp)⟩
theorem Eight.below {w w' : World} {b : Nat} {u0 u1 u2 u3 : Value} (h : Eight w b u0 u1 u2 u3) (hk : Below w.heap.size w w') : Eight w' b u0 u1 u2 u3 :=
  ⟨h.1.below hk, fun i => (hk.frozen (p := ⟨b, i, none⟩) h.1.lt).trans (h.2 i)⟩
theorem Eight.kept {S : Nat → Prop} {w w' : World} {b : Nat} {u0 u1 u2 u3 : Value} (h : Eight w b u0 u1 u2 u3) (hk : Kept S w w') (hn : ¬ S b) : Eight w' b u0 u1 u2 u3 :=
  ⟨⟨(hk.cell (p := ⟨b, 0, none⟩) h.1.lt hn).trans h.1.1, (hk.cell (p := ⟨b, 1, none⟩) h.1.lt hn).trans h.1.2.1, (hk.cell (p := ⟨b, 2, none⟩) h.1.lt hn).trans h.1.2.2.1, (hk.cell (p := ⟨b, 3, none⟩) h.1.lt hn).trans h.1.2.2.2⟩, fun i => (hk.frozen (p := ⟨b, i, none⟩) h.1.lt hn).trans (h.2 i)⟩
theorem Eight.set1 {w : World} {b : Nat} {u0 u1 u2 u3 : Value} (h : Eight w b u0 u1 u2 u3) (v : Value) : Eight (w.setCell ⟨b, 1, none⟩ v) b u0 v u2 u3 :=
  ⟨⟨by rw [cell_set_other (by simp)]; exact h.1.1, cell_set_same h.1.2.1, by rw [cell_set_other (by simp)]; exact h.1.2.2.1, by rw [cell_set_other (by simp)]; exact h.1.2.2.2⟩, fun i => by rw [World.frozen?_setCell]; exact h.2 i⟩

set_option maxRecDepth 100000 in
set_option maxHeartbeats 6400000 in
theorem l8Look_some (a : Option Addr) (c n : Nat) (ls : List (List En)) (p : Bs) (w : World) (h : RdL w a ls) (hn : n = ls.length) (h4 : ls.length ≤ 4) (hR : ∀ es ∈ ls, Right es) (hp : faultP p = 0) (hpl : p.length ≤ 1048576) (i : Nat) (e : En) (hs : seenL ls p = some i) (he : seeL ls i p = some e) :
    Calls Tryz.prog 77 #[.slice a n c, .string (str p)] w (LookYes (asT e) w) := by
  subst hn
  obtain ⟨i0, hi0, hz0, hz1, hz2⟩ := info_parts Tryz.infoI64
  have X0 := hide (Four.new w (.string ⟨#[]⟩) (.int .i64 0) (.int .i64 0) (.slice none 0 0) 40)
  have B0 := hide (below_alloc w (.cells #[.string ⟨#[]⟩, .int .i64 0, .int .i64 0, .slice none 0 0] 40))
  have HPL := hide (l8Place_any a c ls.length ls p _ (h.below B0.out) rfl h4 hR hp hpl)
  rw [hs, show placeI (some i) = (i : Int) from rfl] at HPL
  have f0 : ∀ i, (w.alloc (.cells #[.string ⟨#[]⟩, .int .i64 0, .int .i64 0, .slice none 0 0] 40)).frozen? ⟨w.heap.size, i, none⟩ = false := fun i => by simp
  have hil : i < ls.length := by
    have := seeL_mem he
    unfold seeL at he
    cases hh : ls[i]? with
    | none => rw [hh] at he; cases he
    | some y => exact (List.getElem?_eq_some_iff.1 hh).1
  obtain ⟨b, off, es, x, cc, rfl, hb, hes, c0, hr⟩ := h.at hil
  have hRi := hR es (List.mem_of_getElem? hes)
  have hel := hRi.len
  have hfe : findE es p = some e := by rw [← seeL_at hes]; exact he
  obtain ⟨q, hq⟩ : ∃ q, atE es p = some q := by
    cases ha : atE es p with
    | none => rw [find_at_none ha] at hfe; cases hfe
    | some q => exact ⟨q, rfl⟩
  obtain ⟨e', he', hfe'⟩ := find_at_some hq
  have : e' = e := Option.some.inj (hfe'.symm.trans hfe)
  subst this
  have hqlt := atE_lt hq
  obtain ⟨bb, off2, e2, y, yc, rfl, hbb, he2, z0, z1, z2, z3, hrc⟩ := hr.at hqlt
  have : e2 = e' := Option.some.inj (he2.symm.trans he')
  subst this
  have hsm := right_small hRi e2 (List.mem_of_getElem? he2)
  have hek := ent_kinds (hRi.ent e2 (List.mem_of_getElem? he2))
  have KS : Hid (∀ w', Below w.heap.size w w' → w'.cell? ⟨b, off + i, none⟩ = some (.slice (some ⟨bb, off2, none⟩) es.length cc) ∧ w'.cell? ⟨bb, off2 + q * 4, none⟩ = some (.string (str e2.path)) ∧ w'.cell? ⟨bb, off2 + q * 4 + 1, none⟩ = some (.int .i64 e2.kind) ∧ w'.cell? ⟨bb, off2 + q * 4 + 2, none⟩ = some (.int .i64 e2.size) ∧ w'.cell? ⟨bb, off2 + q * 4 + 3, none⟩ = some (.slice y e2.chunks.length yc)) := hide (fun w' hb' => ⟨(hb'.cell (p := ⟨b, off + i, none⟩) hb).trans c0, (hb'.cell (p := ⟨bb, off2 + q * 4, none⟩) hbb).trans z0, (hb'.cell (p := ⟨bb, off2 + q * 4 + 1, none⟩) hbb).trans z1, (hb'.cell (p := ⟨bb, off2 + q * 4 + 2, none⟩) hbb).trans z2, (hb'.cell (p := ⟨bb, off2 + q * 4 + 3, none⟩) hbb).trans z3⟩)
  have HAT : Hid (∀ w', Below w.heap.size w w' → Calls Tryz.prog 78 #[.slice (some ⟨bb, off2, none⟩) es.length cc, .string (str p)] w' fun r w2 => r = .returned (.int .i64 q) ∧ w2 = w') := hide (fun w' hb' => by have h1 := l4At_any (some ⟨bb, off2, none⟩) cc es.length es p w' (hr.below hb') rfl (by omega); rw [hq] at h1; exact h1)
  have HRC := hide hrc
  have hi1 : (0 : Int) ≤ (i : Int) := by omega
  have hi2 : (i : Int) < (ls.length : Int) := by omega
  have hi3 : ¬ (i : Int) < 0 := by omega
  have hq1 : (0 : Int) ≤ (q : Int) := by omega
  have hq2 : (q : Int) < (es.length : Int) := by omega
  clear h hR hs he hes c0 hr hRi hfe hq he' hfe' he2 z0 z1 z2 z3 hrc
  go_enter Tryz.func77, Tryz.ntmps77
  go_wp2_with fail
  refine HPL.out.mono ?_
  rintro r w1 ⟨rfl, hb1⟩
  have B1 := hide (below_next B0.out hb1)
  have X1 := hide (X0.out.below hb1)
  have FZ := hide (fun i => (hb1.frozen (p := ⟨w.heap.size, i, none⟩) X0.out.lt).trans (f0 i))
  clear hb1 f0 X0 HPL
  obtain ⟨s0, s1, s2, s3, s4⟩ := KS.out _ B1.out
  go_wp2_with fail
  go_region_held3 (fun w' => w'.cell? ⟨b, off + i, none⟩ = some (.slice (some ⟨bb, off2, none⟩) es.length cc) ∧ w'.cell? ⟨bb, off2 + q * 4, none⟩ = some (.string (str e2.path)) ∧ w'.cell? ⟨bb, off2 + q * 4 + 1, none⟩ = some (.int .i64 e2.kind) ∧ w'.cell? ⟨bb, off2 + q * 4 + 2, none⟩ = some (.int .i64 e2.size) ∧ w'.cell? ⟨bb, off2 + q * 4 + 3, none⟩ = some (.slice y e2.chunks.length yc)) (first | exact KS.out _ B1.out.drew | exact KS.out _ (below_next B1.out (below_alloc _ _)).drew | exact KS.out _ (below_next B1.out (below_alloc _ _)) | go_keep)
    ((go_at_call 78; refine (HAT.out _ (by first | exact B1.out.drew | exact (below_next B1.out (below_alloc _ _)).drew)).mono ?_; rintro r w9 ⟨rfl, hw9⟩; have hw8 := hw9.symm; clear hw9; subst hw8))
  all_goals
    have BD := hide (below_next B1.out (below_alloc w1 (.cells #[.string (str e2.path), .int .i64 e2.kind, .int .i64 e2.size, .slice y e2.chunks.length yc] 40))).drew
    have BE := hide ((below_alloc w1 (.cells #[.string (str e2.path), .int .i64 e2.kind, .int .i64 e2.size, .slice y e2.chunks.length yc] 40)).drew)
    have XE : Hid (Eight (w1.alloc (.cells #[.string (str e2.path), .int .i64 e2.kind, .int .i64 e2.size, .slice y e2.chunks.length yc] 40)).drew w1.heap.size (.string (str e2.path)) (.int .i64 e2.kind) (.int .i64 e2.size) (.slice y e2.chunks.length yc)) := hide (Eight.new w1 _ _ _ _ _)
    have XR : Hid (Eight (w1.alloc (.cells #[.string (str e2.path), .int .i64 e2.kind, .int .i64 e2.size, .slice y e2.chunks.length yc] 40)).drew w.heap.size (.string ⟨#[]⟩) (.int .i64 0) (.int .i64 0) (.slice none 0 0)) := hide (Eight.below (w := w1) ⟨X1.out, FZ.out⟩ BE.out)
    have hRE : w.heap.size < w1.heap.size := X1.out.lt
    have hEW : w1.heap.size < (w1.alloc (.cells #[.string (str e2.path), .int .i64 e2.kind, .int .i64 e2.size, .slice y e2.chunks.length yc] 40)).drew.heap.size := XE.out.1.lt
    clear X1 FZ s0 s1 s2 s3 s4 KS HAT BE B1 B0
    generalize (w1.alloc (.cells #[.string (str e2.path), .int .i64 e2.kind, .int .i64 e2.size, .slice y e2.chunks.length yc] 40)).drew = WD at *
    generalize w1.heap.size = be at *
    have hne : w.heap.size ≠ be := by omega
    have hne2 : be ≠ w.heap.size := by omega
    have hm0 : 0 + e2.chunks.length ≤ maxLen := by unfold maxLen; omega
    have hm0' : (0 + e2.chunks.length) * 8 ≤ 140737488355328 := by omega
    obtain ⟨⟨e0, e1, e3, e4⟩, ez⟩ := XE.out
    have ez1 := ez 1
    have ez3 := ez 3
    clear ez
    by_cases h4k : e2.kind = 4
    · have h4' : (e2.kind == 4) = true := by simpa using h4k
      have HAS := hide (show asT e2 = ⟨e2.path, 2, e2.size, e2.chunks⟩ from by unfold asT; rw [if_pos h4k]; rfl)
      clear h4k
      have XE5 := hide (XE.out.set1 (.int .i64 2))
      have XR5 := hide (XR.out.kept (Kept.setCell (S := fun b => b = be) (p := ⟨be, 1, none⟩) (Kept.refl _ WD) (fun _ => rfl) (.int .i64 2)) hne)
      have BW5 := hide (BD.out.setCell (p := ⟨be, 1, none⟩) (by show w.heap.size ≤ be; omega) (.int .i64 2))
      have hz5 : (WD.setCell ⟨be, 1, none⟩ (.int .i64 2)).heap.size = WD.heap.size := by simp [World.setCell]
      have OWN0 : Hid (((WD.setCell ⟨be, 1, none⟩ (.int .i64 2)).alloc (.cells #[] 2)).ownsRow WD.heap.size 2 1 (.slice (some ⟨WD.heap.size, 0, none⟩) 0 0) 0 (([] : List Int).map (Value.int .i64))) := hide (by have h := World.ownsRow_made (base := (WD.setCell ⟨be, 1, none⟩ (.int .i64 2)).heap.size) (e := 2) (size := 1) (WD.setCell ⟨be, 1, none⟩ (.int .i64 2)) #[] 0 (Nat.le_refl _) (Nat.zero_le _) rfl; rw [hz5] at h; exact h)
      have RD0 : Hid (Reads .i64 ((WD.setCell ⟨be, 1, none⟩ (.int .i64 2)).alloc (.cells #[] 2)) y e2.chunks) := hide (HRC.out.below (below_next BW5.out (below_alloc _ _)))
      have XEA := hide (XE5.out.below (below_alloc (WD.setCell ⟨be, 1, none⟩ (.int .i64 2)) (.cells #[] 2)))
      have XRA := hide (XR5.out.below (below_alloc (WD.setCell ⟨be, 1, none⟩ (.int .i64 2)) (.cells #[] 2)))
      have hlE : be < WD.heap.size := XE.out.1.lt
      have hlR : w.heap.size < WD.heap.size := XR.out.1.lt
      have KK : Hid (∀ W6 : World, Kept (fun b => b = WD.heap.size) ((WD.setCell ⟨be, 1, none⟩ (.int .i64 2)).alloc (.cells #[] 2)) W6 → Eight W6 be (.string (str e2.path)) (.int .i64 2) (.int .i64 e2.size) (.slice y e2.chunks.length yc) ∧ Eight W6 w.heap.size (.string ⟨#[]⟩) (.int .i64 0) (.int .i64 0) (.slice none 0 0)) := hide (fun W6 hk => ⟨XEA.out.kept hk (by omega), XRA.out.kept hk (by omega)⟩)
      clear XEA XRA
      go_wp2_with (at_builtin; refine wpList_append_take rfl (.tmp 30) (.tmp 32) 31 rfl WD.heap.size 2 i0 .i64 8 Tryz.underlying31 hi0 hz0 hz1 hz2 WD.heap.size 0 0 [] rfl OWN0.out y e2.chunks.length yc e2.chunks rfl rfl RD0.out e2.chunks.length (by simp) hm0 hm0' (by simp) ?_; intro av cv w6 hown6 hk6; obtain ⟨⟨⟨p0, p1, p2, p3⟩, pz⟩, ⟨⟨r0, r1, r2, r3⟩, rz⟩⟩ := KK.out _ hk6; have pz3 := pz 3; have rz0 := rz 0; have rz1 := rz 1; have rz2 := rz 2; have rz3 := rz 3; have O6 := hide hown6; have K6 := hide hk6; clear pz rz hown6 hk6)
      have BB6 := hide ((below_next BW5.out (below_alloc (WD.setCell ⟨be, 1, none⟩ (.int .i64 2)) (.cells #[] 2))).trans (K6.out.below (B := w.heap.size) (by have := (below_next BW5.out (below_alloc (WD.setCell ⟨be, 1, none⟩ (.int .i64 2)) (.cells #[] 2))).size; omega) (fun k hk hS => by omega)))
      rw [HAS.out]
      refine bodyPost_ret (v := .tuple #[.agg #[.string (str e2.path), .int .i64 2, .int .i64 e2.size, .slice av e2.chunks.length cv], .bool true]) (by simp [results, Tryz.results77, go_sem, r0, r1, r2, r3]) rfl ⟨av, cv, rfl, ?_, ?_⟩
      · refine ownsRow_mono (base := WD.heap.size) ?_ (by omega)
        refine ownsRow_kept (S := fun b => b = be ∨ b = w.heap.size) (by simpa using O6.out) ?_ (fun b hb hS => by have := (O6.out.lt b hb).1; omega)
        exact Kept.setCell (S := fun b => b = be ∨ b = w.heap.size) (p := ⟨w.heap.size, 3, none⟩) (Kept.setCell (S := fun b => b = be ∨ b = w.heap.size) (p := ⟨w.heap.size, 2, none⟩) (Kept.setCell (S := fun b => b = be ∨ b = w.heap.size) (p := ⟨w.heap.size, 1, none⟩) (Kept.setCell (S := fun b => b = be ∨ b = w.heap.size) (p := ⟨w.heap.size, 0, none⟩) (Kept.setCell (S := fun b => b = be ∨ b = w.heap.size) (p := ⟨be, 3, none⟩) (Kept.refl _ _) (fun _ => .inl rfl) _) (fun _ => .inr rfl) _) (fun _ => .inr rfl) _) (fun _ => .inr rfl) _) (fun _ => .inr rfl) _
      · exact ((((BB6.out.setCell (p := ⟨be, 3, none⟩) (by show w.heap.size ≤ be; omega) _).setCell (p := ⟨w.heap.size, 0, none⟩) (Nat.le_refl _) _).setCell (p := ⟨w.heap.size, 1, none⟩) (Nat.le_refl _) _).setCell (p := ⟨w.heap.size, 2, none⟩) (Nat.le_refl _) _).setCell (p := ⟨w.heap.size, 3, none⟩) (Nat.le_refl _) _
    · have h4' : (e2.kind == 4) = false := by simpa using h4k
      have HAS := hide (show asT e2 = ⟨e2.path, e2.kind, e2.size, e2.chunks⟩ from by unfold asT; rw [if_neg h4k])
      clear h4k
      have XE5 := XE
      have XR5 := XR
      have BW5 := BD
      have OWN0 : Hid ((WD.alloc (.cells #[] 2)).ownsRow WD.heap.size 2 1 (.slice (some ⟨WD.heap.size, 0, none⟩) 0 0) 0 (([] : List Int).map (Value.int .i64))) := hide (World.ownsRow_made (base := WD.heap.size) (e := 2) (size := 1) WD #[] 0 (Nat.le_refl _) (Nat.zero_le _) rfl)
      have RD0 : Hid (Reads .i64 (WD.alloc (.cells #[] 2)) y e2.chunks) := hide (HRC.out.below (below_next BW5.out (below_alloc _ _)))
      have XEA := hide (XE5.out.below (below_alloc WD (.cells #[] 2)))
      have XRA := hide (XR5.out.below (below_alloc WD (.cells #[] 2)))
      have hlE := XE5.out.1.lt
      have hlR := XR5.out.1.lt
      have KK : Hid (∀ W6 : World, Kept (fun b => b = WD.heap.size) (WD.alloc (.cells #[] 2)) W6 → Eight W6 be (.string (str e2.path)) (.int .i64 e2.kind) (.int .i64 e2.size) (.slice y e2.chunks.length yc) ∧ Eight W6 w.heap.size (.string ⟨#[]⟩) (.int .i64 0) (.int .i64 0) (.slice none 0 0)) := hide (fun W6 hk => ⟨XEA.out.kept hk (by omega), XRA.out.kept hk (by omega)⟩)
      clear XEA XRA
      go_wp2_with (at_builtin; refine wpList_append_take rfl (.tmp 30) (.tmp 32) 31 rfl WD.heap.size 2 i0 .i64 8 Tryz.underlying31 hi0 hz0 hz1 hz2 WD.heap.size 0 0 [] rfl OWN0.out y e2.chunks.length yc e2.chunks rfl rfl RD0.out e2.chunks.length (by simp) hm0 hm0' (by simp) ?_; intro av cv w6 hown6 hk6; obtain ⟨⟨⟨p0, p1, p2, p3⟩, pz⟩, ⟨⟨r0, r1, r2, r3⟩, rz⟩⟩ := KK.out _ hk6; have pz3 := pz 3; have rz0 := rz 0; have rz1 := rz 1; have rz2 := rz 2; have rz3 := rz 3; have O6 := hide hown6; have K6 := hide hk6; clear pz rz hown6 hk6)
      have BB6 := hide ((below_next BW5.out (below_alloc WD (.cells #[] 2))).trans (K6.out.below (B := w.heap.size) (by have := (below_next BW5.out (below_alloc WD (.cells #[] 2))).size; omega) (fun k hk hS => by omega)))
      rw [HAS.out]
      refine bodyPost_ret (v := .tuple #[.agg #[.string (str e2.path), .int .i64 e2.kind, .int .i64 e2.size, .slice av e2.chunks.length cv], .bool true]) (by simp [results, Tryz.results77, go_sem, r0, r1, r2, r3]) rfl ⟨av, cv, rfl, ?_, ?_⟩
      · refine ownsRow_mono (base := WD.heap.size) ?_ (by omega)
        refine ownsRow_kept (S := fun b => b = be ∨ b = w.heap.size) (by simpa using O6.out) ?_ (fun b hb hS => by have := (O6.out.lt b hb).1; omega)
        exact Kept.setCell (S := fun b => b = be ∨ b = w.heap.size) (p := ⟨w.heap.size, 3, none⟩) (Kept.setCell (S := fun b => b = be ∨ b = w.heap.size) (p := ⟨w.heap.size, 2, none⟩) (Kept.setCell (S := fun b => b = be ∨ b = w.heap.size) (p := ⟨w.heap.size, 1, none⟩) (Kept.setCell (S := fun b => b = be ∨ b = w.heap.size) (p := ⟨w.heap.size, 0, none⟩) (Kept.setCell (S := fun b => b = be ∨ b = w.heap.size) (p := ⟨be, 3, none⟩) (Kept.refl _ _) (fun _ => .inl rfl) _) (fun _ => .inr rfl) _) (fun _ => .inr rfl) _) (fun _ => .inr rfl) _) (fun _ => .inr rfl) _
      · exact ((((BB6.out.setCell (p := ⟨be, 3, none⟩) (by show w.heap.size ≤ be; omega) _).setCell (p := ⟨w.heap.size, 0, none⟩) (Nat.le_refl _) _).setCell (p := ⟨w.heap.size, 1, none⟩) (Nat.le_refl _) _).setCell (p := ⟨w.heap.size, 2, none⟩) (Nat.le_refl _) _).setCell (p := ⟨w.heap.size, 3, none⟩) (Nat.le_refl _) _
end Go.Proofs.YtejipahfodhmjaaGreat

namespace Go.Proofs.YtejipahfodhmjaaGreat
open Go.RowKit Go.Maps
set_option linter.unusedVariables false
attribute [local go_sem ↓] Go.wp_at_zero Go.wp_at_succ

theorem box_set1 {w : World} {b : Nat} {u v : Value} (h : Box w b u v) (v' : Value) : Box (w.setCell ⟨b, 1, none⟩ v') b u v' :=
  ⟨⟨by rw [cell_set_other (by simp)]; exact h.1.1, cell_set_same h.1.2⟩, by rw [World.frozen?_setCell]; exact h.2.1, by rw [World.frozen?_setCell]; exact h.2.2⟩
end Go.Proofs.YtejipahfodhmjaaGreat

