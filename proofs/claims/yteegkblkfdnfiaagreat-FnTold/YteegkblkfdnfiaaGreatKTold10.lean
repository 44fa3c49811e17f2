/-
  Texts put together: MerP MerQ MerR SeeJ LayS IteS.
-/
import Derived.Test.YteegkblkfdnfiaaGreatKTold9
import Derived.Test.YteegkblkfdnfiaaGreatKTold5
import Derived.Deep.RegionHeld3
import Derived.Test.YteegkblkfdnfiaaGreatKTold8
import Derived.Test.YteegkblkfdnfiaaGreatKTold7
import Derived.Test.YteegkblkfdnfiaaGreatKTold3
import Derived.Shelf.SlSortCmp.WholeK
import Derived.Ground.SlsfProg
import Derived.Test.YteegkblkfdnfiaaGreatProg
namespace Go.Proofs.YteegkblkfdnfiaaGreat
open Go.RowKit Go.Maps
set_option linter.unusedVariables false
attribute [local go_sem ↓] Go.wp_at_zero Go.wp_at_succ

theorem restP_eq {es : List En} {p : Bs} (h : ∀ x ∈ es, faultP x.path = 0) (hp : faultP p = 0) : (es.filter fun e => !(atBelow e.path p)) = restE es p true := by
  unfold restE
  apply List.filter_congr
  intro x hx
  rw [atBelow, isBelow_eq (h x hx) hp, goesE, Bool.true_and, Bool.or_comm]
theorem place_off {es : List En} {p : Bs} (h : ∀ x ∈ es, faultP x.path = 0) (hp : faultP p = 0) : offE (es.filter fun e => !(isBelow e.path p)) p = restE es p true := by
  unfold offE restE
  rw [List.filter_filter]
  apply List.filter_congr
  intro x hx
  rw [isBelow_eq (h x hx) hp, goesE, Bool.true_and, Bool.not_or, Bool.and_comm]
theorem Fit.small {es : List En} (h : Fit es) : SmallE es := by
  intro e he
  have h1 := path_len2 (h.path he)
  have h3 := entFault_chunks (h.ent e he)
  omega

set_option maxRecDepth 100000 in
set_option maxHeartbeats 800000 in
theorem isUnderLit_any (p : Bs) (b : Nat) (e : En) (a : Option Addr) (c : Nat) (w : World) (h : w.cell? ⟨b, 0, none⟩ = some (.string (str p))) (hl : e.path.length ≤ 1048576) :
    Calls Tryz.prog 192 #[.agg #[.int .i64 e.size, .slice a e.chunks.length c, .string (str e.path), .int .i64 e.kind], .pointer (some ⟨b, 0, none⟩)] w fun r w' => r = .returned (.bool (atBelow e.path p)) ∧ Below w.heap.size w w' := by
  have HB0 := hide (below_alloc w (.cells #[.int .i64 e.size, .slice a e.chunks.length c, .string (str e.path), .int .i64 e.kind] 93))
  have hb := World.block_lt_of_cell? w ⟨b, 0, none⟩ h
  have hbw := (HB0.out.cell (p := ⟨b, 0, none⟩) hb).trans h
  have HC := hide (fun (u : World) => isAtOrBelow_any e.path p e.kind e.size a e.chunks.length c u hl)
  generalize atBelow e.path p = Z at *
  go_enter Tryz.func192, Tryz.ntmps192
  go_wp2_with fail
  refine (HC.out _).mono ?_
  rintro r w1 ⟨rfl, hb1⟩
  have B1 := hide (below_next HB0.out hb1)
  clear hb1
  go_wp2_with fail
  go_ret
  exact ⟨rfl, B1.out⟩
theorem isUnder_any (p : Bs) (w : World) :
    Calls Tryz.prog 141 #[.string (str p)] w fun r w' => r = .returned (.func (.func 192) #[] #[.pointer (some ⟨w.heap.size, 0, none⟩)]) ∧ Below w.heap.size w w' ∧ Asks w' 192 #[.pointer (some ⟨w.heap.size, 0, none⟩)] (fun e => atBelow e.path p) := by
  have hmf : ∀ (fn : Fn) (first cap : Array Value) (w : World), (Instr.makeFunc fn first cap).run Tryz.prog w = .ok (.func fn first cap) w := fun _ _ _ _ => rfl
  go_enter Tryz.func141, Tryz.ntmps141
  go_wp2_with fail
  go_ret
  refine ⟨rfl, below_alloc _ _, enters_of Tryz.func192 (by kernel_rfl) rfl, fun e a c w' he _ _ hb => ?_⟩
  exact isUnderLit_any p w.heap.size e a c w' ((hb.cell (p := ⟨w.heap.size, 0, none⟩) (by simp)).trans (by simp)) he

set_option maxRecDepth 100000 in
set_option maxHeartbeats 800000 in
theorem isBelowLit_any (p : Bs) (b : Nat) (e : En) (a : Option Addr) (c : Nat) (w : World) (h : w.cell? ⟨b, 0, none⟩ = some (.string (str p))) (hl : e.path.length ≤ 1048576) :
    Calls Tryz.prog 234 #[.agg #[.int .i64 e.size, .slice a e.chunks.length c, .string (str e.path), .int .i64 e.kind], .pointer (some ⟨b, 0, none⟩)] w fun r w' => r = .returned (.bool (isBelow e.path p)) ∧ Below w.heap.size w w' := by
  have HB0 := hide (below_alloc w (.cells #[.int .i64 e.size, .slice a e.chunks.length c, .string (str e.path), .int .i64 e.kind] 93))
  have hb := World.block_lt_of_cell? w ⟨b, 0, none⟩ h
  have hbw := (HB0.out.cell (p := ⟨b, 0, none⟩) hb).trans h
  have HC := hide (fun (u : World) => implIsBelow_any (str e.path) (str p) u (by rw [str_size]; omega))
  rw [str_data, str_data] at HC
  generalize isBelow e.path p = Z at *
  go_enter Tryz.func234, Tryz.ntmps234
  go_wp2_with fail
  refine (HC.out _).mono ?_
  rintro r w1 ⟨rfl, hb1⟩
  have B1 := hide (below_next HB0.out hb1)
  clear hb1
  go_wp2_with fail
  go_ret
  exact ⟨rfl, B1.out⟩
theorem isBelow_any (p : Bs) (w : World) :
    Calls Tryz.prog 194 #[.string (str p)] w fun r w' => r = .returned (.func (.func 234) #[] #[.pointer (some ⟨w.heap.size, 0, none⟩)]) ∧ Below w.heap.size w w' ∧ Asks w' 234 #[.pointer (some ⟨w.heap.size, 0, none⟩)] (fun e => isBelow e.path p) := by
  have hmf : ∀ (fn : Fn) (first cap : Array Value) (w : World), (Instr.makeFunc fn first cap).run Tryz.prog w = .ok (.func fn first cap) w := fun _ _ _ _ => rfl
  go_enter Tryz.func194, Tryz.ntmps194
  go_wp2_with fail
  go_ret
  refine ⟨rfl, below_alloc _ _, enters_of Tryz.func234 (by kernel_rfl) rfl, fun e a c w' he _ _ hb => ?_⟩
  exact isBelowLit_any p w.heap.size e a c w' ((hb.cell (p := ⟨w.heap.size, 0, none⟩) (by simp)).trans (by simp)) he

set_option maxRecDepth 100000 in
set_option maxHeartbeats 800000 in
theorem isDirAtLit_any (p : Bs) (b : Nat) (e : En) (a : Option Addr) (c : Nat) (w : World) (h : w.cell? ⟨b, 0, none⟩ = some (.string (str p))) :
    Calls Tryz.prog 195 #[.agg #[.int .i64 e.size, .slice a e.chunks.length c, .string (str e.path), .int .i64 e.kind], .pointer (some ⟨b, 0, none⟩)] w fun r w' => r = .returned (.bool (decide (e.path = p) && dirK e.kind)) ∧ Below w.heap.size w w' := by
  have HB0 := hide (below_alloc w (.cells #[.int .i64 e.size, .slice a e.chunks.length c, .string (str e.path), .int .i64 e.kind] 93))
  have hb := World.block_lt_of_cell? w ⟨b, 0, none⟩ h
  have hbw := (HB0.out.cell (p := ⟨b, 0, none⟩) hb).trans h
  have HC := hide (fun (u : World) => isDir_any (str e.path) e.kind e.size a e.chunks.length c u)
  generalize dirK e.kind = Z at *
  by_cases hp : e.path = p
  · have hs1 := str_yes hp
    rw [decide_eq_true hp, Bool.true_and]
    clear hp
    go_enter Tryz.func195, Tryz.ntmps195
    go_wp2_with fail
    refine (HC.out _).mono ?_
    rintro r w1 ⟨rfl, hb1⟩
    have B1 := hide (below_next HB0.out hb1)
    clear hb1
    go_wp2_with fail
    cases Z
    · go_ret
      exact ⟨rfl, B1.out⟩
    · go_ret
      exact ⟨rfl, B1.out⟩
  · have hs1 := str_no hp
    rw [decide_eq_false hp, Bool.false_and]
    clear hp
    go_enter Tryz.func195, Tryz.ntmps195
    go_wp2_with fail
    go_ret
    exact ⟨rfl, HB0.out⟩
theorem isDirAt_any (p : Bs) (w : World) :
    Calls Tryz.prog 143 #[.string (str p)] w fun r w' => r = .returned (.func (.func 195) #[] #[.pointer (some ⟨w.heap.size, 0, none⟩)]) ∧ Below w.heap.size w w' ∧ Asks w' 195 #[.pointer (some ⟨w.heap.size, 0, none⟩)] (fun e => decide (e.path = p) && dirK e.kind) := by
  have hmf : ∀ (fn : Fn) (first cap : Array Value) (w : World), (Instr.makeFunc fn first cap).run Tryz.prog w = .ok (.func fn first cap) w := fun _ _ _ _ => rfl
  go_enter Tryz.func143, Tryz.ntmps143
  go_wp2_with fail
  go_ret
  refine ⟨rfl, below_alloc _ _, enters_of Tryz.func195 (by kernel_rfl) rfl, fun e a c w' he _ _ hb => ?_⟩
  exact isDirAtLit_any p w.heap.size e a c w' ((hb.cell (p := ⟨w.heap.size, 0, none⟩) (by simp)).trans (by simp))

set_option maxRecDepth 100000 in
set_option maxHeartbeats 3200000 in
theorem inPlace_any (a : Option Addr) (c n : Nat) (es : List En) (e : En) (x : Option Addr) (cc : Nat) (w : World) (h : RdI w a es) (hn : n = es.length) (hl : es.length ≤ 1048575) (hF : Fit es) (he : faultP e.path = 0) (hx : Reads .i64 w x e.chunks) :
    Calls Tryz.prog 142 #[.slice a n c, .agg #[.int .i64 e.size, .slice x e.chunks.length cc, .string (str e.path), .int .i64 e.kind]] w fun r w' => ∃ g cv, r = .returned (.slice (some ⟨g, 0, none⟩) (putAt (restE es e.path true) e).length cv) ∧ RdI w' (some ⟨g, 0, none⟩) (putAt (restE es e.path true) e) ∧ Below w.heap.size w w' := by
  subst hn
  have B0 := hide (below_alloc w (.cells #[.int .i64 e.size, .slice x e.chunks.length cc, .string (str e.path), .int .i64 e.kind] 93))
  have F0 := hide (Four.new w (.int .i64 e.size) (.slice x e.chunks.length cc) (.string (str e.path)) (.int .i64 e.kind) 93)
  have HR := hide (h.below B0.out)
  have HX := hide (hx.below B0.out)
  have HS := hide hF.small
  have HRi := hide (show Rise (es.filter fun e' => !(isBelow e'.path e.path)) from hF.rise.sublist List.filter_sublist)
  have HSf := hide (show SmallE (es.filter fun e' => !(isBelow e'.path e.path)) from fun y hy => hF.small y (List.mem_filter.1 hy).1)
  have HOF := hide (place_off (p := e.path) (fun y hy => hF.path hy) he)
  have hfl := List.length_filter_le (fun e' : En => !(isBelow e'.path e.path)) es
  clear h hx hF
  go_enter Tryz.func142, Tryz.ntmps142
  go_wp2_with fail
  generalize w.alloc (.cells #[.int .i64 e.size, .slice x e.chunks.length cc, .string (str e.path), .int .i64 e.kind] 93) = W0 at *
  have KC : Hid (∀ w' : World, Below W0.heap.size W0 w' → w'.cell? ⟨w.heap.size, 0, none⟩ = some (.int .i64 e.size) ∧ w'.cell? ⟨w.heap.size, 1, none⟩ = some (.slice x e.chunks.length cc) ∧ w'.cell? ⟨w.heap.size, 2, none⟩ = some (.string (str e.path)) ∧ w'.cell? ⟨w.heap.size, 3, none⟩ = some (.int .i64 e.kind)) := hide (fun w' hb => F0.out.below hb)
  obtain ⟨p0, p1, p2, p3⟩ := F0.out
  go_region_held3 (fun w' => w'.cell? ⟨w.heap.size, 0, none⟩ = some (.int .i64 e.size) ∧ w'.cell? ⟨w.heap.size, 1, none⟩ = some (.slice x e.chunks.length cc) ∧ w'.cell? ⟨w.heap.size, 2, none⟩ = some (.string (str e.path)) ∧ w'.cell? ⟨w.heap.size, 3, none⟩ = some (.int .i64 e.kind)) (first | exact KC.out _ BB3.out | exact KC.out _ BB2.out | exact KC.out _ BB1.out | go_keep)
    ((first
      | (go_at_call 194; refine (isBelow_any e.path _).mono ?_; rintro r w1 ⟨rfl, hb1, hA⟩; have HA := hide hA; have BB1 := hide ((Below.refl W0.heap.size W0).drew.trans hb1); clear hb1 hA)
      | (go_at_call 140; refine (without_any a c es.length es _ _ _ _ (HR.out.below BB1.out) rfl (by omega) HS.out (HA.out.next (Below.refl _ _))).mono ?_; rintro r w2 ⟨av2, cv2, v2, rfl, hL2, hb2, hb2'⟩; have BB2 := hide (below_next (below_next BB1.out hb2) hb2'); have RI2 := hide (hL2.rd hb2'); clear hL2 hb2 hb2')
      | (go_at_call 193; refine (withItem_any av2 cv2 _ _ e x cc _ RI2.out rfl (by omega) HSf.out HRi.out (HX.out.below BB2.out)).mono ?_; rintro r w3 ⟨g3, cv3, rfl, hri3, hb3⟩; have BB3 := hide (below_next BB2.out hb3); have RI3 := hide hri3; clear hri3 hb3)))
  rw [HOF.out] at RI3 ⊢
  go_wp2_with fail
  go_ret
  exact ⟨g3, cv3, rfl, RI3.out, below_next B0.out BB3.out⟩

def saidT (k : Int) : TypeId := if k = 1 then 171 else if k = 2 then 169 else if k = 3 then 164 else 167
def saidV (e : En) (x : Option Addr) (cc : Nat) : Value := .iface (saidT e.kind) (.agg #[.int .i64 e.size, .slice x e.chunks.length cc, .string (str e.path), .int .i64 e.kind])
set_option maxRecDepth 100000 in
set_option maxHeartbeats 800000 in
theorem saidBy_any (e : En) (x : Option Addr) (cc : Nat) (w : World) (hk : e.kind = 1 ∨ e.kind = 2 ∨ e.kind = 3 ∨ e.kind = 4) :
    Calls Tryz.prog 96 #[.agg #[.int .i64 e.size, .slice x e.chunks.length cc, .string (str e.path), .int .i64 e.kind]] w fun r w' => r = .returned (saidV e x cc) ∧ Below w.heap.size w w' := by
  have HE := hide (show saidV e x cc = .iface (saidT e.kind) (.agg #[.int .i64 e.size, .slice x e.chunks.length cc, .string (str e.path), .int .i64 e.kind]) from rfl)
  generalize saidV e x cc = V at *
  rcases hk with hk | hk | hk | hk
  all_goals
    rw [hk] at HE ⊢
    go_enter Tryz.func96, Tryz.ntmps96
    go_wp2_with fail
    go_ret
    exact ⟨by rw [HE.out]; rfl, below_alloc _ _⟩
end Go.Proofs.YteegkblkfdnfiaaGreat

namespace Go.Proofs.YteegkblkfdnfiaaGreat
open Go.RowKit Go.Maps
set_option linter.unusedVariables false
attribute [local go_sem ↓] Go.wp_at_zero Go.wp_at_succ

theorem any_hasDir (es : List En) (p : Bs) : (es.any fun e => decide (e.path = p) && dirK e.kind) = hasDir es p := rfl
theorem asFileDir (v : Value) (W : World) : (Instr.typeAssert (.iface 171 v) 129 169 true).run Tryz.prog W = .ok (.tuple #[.agg #[.int .i64 0, .slice none 0 0, .string ⟨#[]⟩, .int .i64 0], .bool false]) W := by kernel_rfl
theorem asFileWhite (v : Value) (W : World) : (Instr.typeAssert (.iface 171 v) 129 164 true).run Tryz.prog W = .ok (.tuple #[.agg #[.int .i64 0, .slice none 0 0, .string ⟨#[]⟩, .int .i64 0], .bool false]) W := by kernel_rfl
theorem asFileOpaque (v : Value) (W : World) : (Instr.typeAssert (.iface 171 v) 129 167 true).run Tryz.prog W = .ok (.tuple #[.agg #[.int .i64 0, .slice none 0 0, .string ⟨#[]⟩, .int .i64 0], .bool false]) W := by kernel_rfl
theorem asDirDir (v : Value) (W : World) : (Instr.typeAssert (.iface 169 v) 129 169 true).run Tryz.prog W = .ok (.tuple #[v, .bool true]) W := by kernel_rfl
theorem asDirWhite (v : Value) (W : World) : (Instr.typeAssert (.iface 169 v) 129 164 true).run Tryz.prog W = .ok (.tuple #[.agg #[.int .i64 0, .slice none 0 0, .string ⟨#[]⟩, .int .i64 0], .bool false]) W := by kernel_rfl
theorem asDirOpaque (v : Value) (W : World) : (Instr.typeAssert (.iface 169 v) 129 167 true).run Tryz.prog W = .ok (.tuple #[.agg #[.int .i64 0, .slice none 0 0, .string ⟨#[]⟩, .int .i64 0], .bool false]) W := by kernel_rfl
theorem asWhiteDir (v : Value) (W : World) : (Instr.typeAssert (.iface 164 v) 129 169 true).run Tryz.prog W = .ok (.tuple #[.agg #[.int .i64 0, .slice none 0 0, .string ⟨#[]⟩, .int .i64 0], .bool false]) W := by kernel_rfl
theorem asWhiteWhite (v : Value) (W : World) : (Instr.typeAssert (.iface 164 v) 129 164 true).run Tryz.prog W = .ok (.tuple #[v, .bool true]) W := by kernel_rfl
theorem asWhiteOpaque (v : Value) (W : World) : (Instr.typeAssert (.iface 164 v) 129 167 true).run Tryz.prog W = .ok (.tuple #[.agg #[.int .i64 0, .slice none 0 0, .string ⟨#[]⟩, .int .i64 0], .bool false]) W := by kernel_rfl
theorem asOpaqueDir (v : Value) (W : World) : (Instr.typeAssert (.iface 167 v) 129 169 true).run Tryz.prog W = .ok (.tuple #[.agg #[.int .i64 0, .slice none 0 0, .string ⟨#[]⟩, .int .i64 0], .bool false]) W := by kernel_rfl
theorem asOpaqueWhite (v : Value) (W : World) : (Instr.typeAssert (.iface 167 v) 129 164 true).run Tryz.prog W = .ok (.tuple #[.agg #[.int .i64 0, .slice none 0 0, .string ⟨#[]⟩, .int .i64 0], .bool false]) W := by kernel_rfl
theorem asOpaqueOpaque (v : Value) (W : World) : (Instr.typeAssert (.iface 167 v) 129 167 true).run Tryz.prog W = .ok (.tuple #[v, .bool true]) W := by kernel_rfl
theorem entry_any (p : ByteArray) (k z : Int) (a : Option Addr) (n c : Nat) (w : World) :
    Calls Tryz.prog 299 #[.agg #[.int .i64 z, .slice a n c, .string p, .int .i64 k]] w fun r w' => r = .returned (.agg #[.int .i64 z, .slice a n c, .string p, .int .i64 k]) ∧ Below w.heap.size w w' := by
  obtain ⟨⟨q0, q1, q2, q3⟩, tf⟩ := Box4.new (w.alloc (.cells #[.int .i64 z, .slice a n c, .string p, .int .i64 k] 93)) (.int .i64 0) (.slice none 0 0) (.string ⟨#[]⟩) (.int .i64 0) 93
  go_enter Tryz.func299, Tryz.ntmps299
  go_wp2_with fail
  exact bodyPost_ret (v := .agg #[.int .i64 z, .slice a n c, .string p, .int .i64 k]) (by simp [results, Tryz.results299, go_sem]) rfl ⟨rfl, below_next (below_alloc _ _) (below_alloc _ _)⟩
set_option maxRecDepth 100000 in
set_option maxHeartbeats 3200000 in
theorem laidOver_any (a : Option Addr) (c n : Nat) (es : List En) (e : En) (x : Option Addr) (cc : Nat) (w : World) (h : RdI w a es) (hn : n = es.length) (hl : es.length ≤ 1048575) (hF : FitT es) (he : entFault e = 0) (hx : Reads .i64 w x e.chunks) :
    Calls Tryz.prog 95 #[.slice a n c, saidV e x cc] w fun r w' => ∃ av cv, r = .returned (.slice av (overE es e).length cv) ∧ RdI w' av (overE es e) ∧ Below w.heap.size w w' := by
  subst hn
  have hp := entFault_zero he
  have HR := hide h
  have HX := hide hx
  have HF := hide hF
  have HS := hide hF.fit.small
  have HE := hide (show saidV e x cc = .iface (saidT e.kind) (.agg #[.int .i64 e.size, .slice x e.chunks.length cc, .string (str e.path), .int .i64 e.kind]) from rfl)
  rw [HE.out]
  clear h hx hF HE
  rcases ent_kinds he with hk | hk | hk | hk
  · -- a file
    have HO := hide (show overE es e = putAt (restE es e.path true) e from by simp [overE, hk, asT])
    have hst : saidT e.kind = 171 := by rw [hk]; rfl
    have hw := asFileWhite
    have ho := asFileOpaque
    have hd := asFileDir
    have hsz : ∀ (h : 93 < Tryz.prog.types.size), (Tryz.prog.types[93]'h).size = 4 := fun _ => by kernel_rfl
    have HP := hide (fun (u : World) (hb : Below w.heap.size w u) => inPlace_any a c es.length es e x cc u (HR.out.below hb) rfl hl HF.out.fit hp (HX.out.below hb))
    rw [hst, HO.out]
    rw [hk] at HP ⊢
    generalize putAt (restE es e.path true) e = OL at *
    clear hk hst HO
    go_enter Tryz.func95, Tryz.ntmps95
    go_wp2_with fail
    refine (entry_any (str e.path) 1 e.size x e.chunks.length cc _).mono ?_
    rintro r w1 ⟨rfl, hb1⟩
    have B1 := hide hb1
    clear hb1
    go_wp2_with fail
    refine (HP.out _ B1.out).mono ?_
    rintro r w2 ⟨g, cv, rfl, hri, hb2⟩
    have RI := hide hri
    have B2 := hide (below_next B1.out hb2)
    clear hri hb2
    go_wp2_with fail
    go_ret
    exact ⟨_, cv, rfl, RI.out, B2.out⟩
  · -- a directory
    have hst : saidT e.kind = 169 := by rw [hk]; rfl
    have hw := asDirWhite
    have ho := asDirOpaque
    have hd := asDirDir
    have HP := hide (fun (u : World) (hb : Below w.heap.size w u) => inPlace_any a c es.length es e x cc u (HR.out.below hb) rfl hl HF.out.fit hp (HX.out.below hb))
    have HO := hide (show overE es e = if hasDir es e.path = true then es else putAt (restE es e.path true) e from by simp [overE, hk, asT])
    have A1 := hide (below_alloc w (.cells #[.int .i64 e.size, .slice x e.chunks.length cc, .string (str e.path), .int .i64 2] 169))
    have F1 := hide (Four.new w (.int .i64 e.size) (.slice x e.chunks.length cc) (.string (str e.path)) (.int .i64 2) 169)
    cases hdir : hasDir es e.path
    · rw [hdir, if_neg Bool.false_ne_true] at HO
      rw [hst, HO.out]
      rw [hk] at HP ⊢
      generalize putAt (restE es e.path true) e = OL at *
      clear hk hst HO
      go_enter Tryz.func95, Tryz.ntmps95
      go_wp2_with fail
      generalize w.alloc (.cells #[.int .i64 e.size, .slice x e.chunks.length cc, .string (str e.path), .int .i64 2] 169) = W1 at *
      refine (isDirAt_any e.path _).mono ?_
      rintro r w2 ⟨rfl, hb2, hA⟩
      have HA := hide hA
      have B2 := hide (below_next A1.out hb2)
      have F2 := hide (F1.out.below hb2)
      clear hA hb2
      go_wp2_with fail
      refine (hasI_any a c es.length es _ _ _ _ (HR.out.below B2.out) rfl (by omega) HS.out HA.out).mono ?_
      rw [any_hasDir, hdir]
      rintro r w3 ⟨rfl, hb3⟩
      have B3 := hide (below_next B2.out hb3)
      obtain ⟨q0, q1, q2, q3⟩ := F2.out.below hb3
      clear hb3
      go_wp2_with fail
      refine (HP.out _ B3.out).mono ?_
      rintro r w4 ⟨g, cv, rfl, hri, hb4⟩
      have RI := hide hri
      have B4 := hide (below_next B3.out hb4)
      clear hri hb4
      go_wp2_with fail
      go_ret
      exact ⟨_, cv, rfl, RI.out, B4.out⟩
    · rw [hdir, if_pos rfl] at HO
      rw [hst, HO.out]
      rw [hk]
      clear hk hst HO
      go_enter Tryz.func95, Tryz.ntmps95
      go_wp2_with fail
      generalize w.alloc (.cells #[.int .i64 e.size, .slice x e.chunks.length cc, .string (str e.path), .int .i64 2] 169) = W1 at *
      refine (isDirAt_any e.path _).mono ?_
      rintro r w2 ⟨rfl, hb2, hA⟩
      have HA := hide hA
      have B2 := hide (below_next A1.out hb2)
      clear hA hb2
      go_wp2_with fail
      refine (hasI_any a c es.length es _ _ _ _ (HR.out.below B2.out) rfl (by omega) HS.out HA.out).mono ?_
      rw [any_hasDir, hdir]
      rintro r w3 ⟨rfl, hb3⟩
      have B3 := hide (below_next B2.out hb3)
      clear hb3
      go_wp2_with fail
      go_ret
      exact ⟨a, c, rfl, HR.out.below B3.out, B3.out⟩
  · -- a white
    have hst : saidT e.kind = 164 := by rw [hk]; rfl
    have hw := asWhiteWhite
    have ho := asWhiteOpaque
    have hd := asWhiteDir
    have HO := hide (show overE es e = es.filter fun y => !(atBelow y.path e.path) from by rw [restP_eq (fun y hy => HF.out.fit.path hy) hp]; simp [overE, hk])
    rw [hst, HO.out]
    rw [hk]
    clear hk hst HO
    have A1 := hide (below_alloc w (.cells #[.int .i64 e.size, .slice x e.chunks.length cc, .string (str e.path), .int .i64 3] 164))
    go_enter Tryz.func95, Tryz.ntmps95
    go_wp2_with fail
    generalize w.alloc (.cells #[.int .i64 e.size, .slice x e.chunks.length cc, .string (str e.path), .int .i64 3] 164) = W1 at *
    refine (isUnder_any e.path _).mono ?_
    rintro r w2 ⟨rfl, hb2, hA⟩
    have HA := hide hA
    have B2 := hide (below_next A1.out hb2)
    clear hA hb2
    go_wp2_with fail
    refine (without_any a c es.length es _ _ _ _ (HR.out.below B2.out) rfl (by omega) HS.out HA.out).mono ?_
    rintro r w3 ⟨av3, cv3, v3, rfl, hL3, hb3, hb3'⟩
    have B3 := hide (below_next (below_next B2.out hb3) hb3')
    have RI3 := hide (hL3.rd hb3')
    clear hL3 hb3 hb3'
    go_wp2_with fail
    go_ret
    exact ⟨av3, cv3, rfl, RI3.out, B3.out⟩
  · -- kind 4
    have hst : saidT e.kind = 167 := by rw [hk]; rfl
    have hw := asOpaqueWhite
    have ho := asOpaqueOpaque
    have hd := asOpaqueDir
    have HO := hide (show overE es e = putAt (restE es e.path true) (kindE e 2) from by simp [overE, hk, asT])
    have HP := hide (fun (u : World) (hb : Below w.heap.size w u) => inPlace_any a c es.length es (kindE e 2) x cc u (HR.out.below hb) rfl hl HF.out.fit hp (HX.out.below hb))
    have e0 : (kindE e 2).path = e.path := rfl
    have e1 : (kindE e 2).size = e.size := rfl
    have e2 : (kindE e 2).chunks = e.chunks := rfl
    have e3 : (kindE e 2).kind = 2 := rfl
    rw [e0, e1, e2, e3] at HP
    rw [hst, HO.out]
    rw [hk]
    generalize putAt (restE es e.path true) (kindE e 2) = OL at *
    clear hk hst HO e0 e1 e2 e3
    have A1 := hide (below_alloc w (.cells #[.int .i64 e.size, .slice x e.chunks.length cc, .string (str e.path), .int .i64 2] 167))
    go_enter Tryz.func95, Tryz.ntmps95
    go_wp2_with fail
    refine (HP.out _ A1.out).mono ?_
    rintro r w2 ⟨g, cv, rfl, hri, hb2⟩
    have RI := hide hri
    have B2 := hide (below_next A1.out hb2)
    clear hri hb2
    go_wp2_with fail
    go_ret
    exact ⟨_, cv, rfl, RI.out, B2.out⟩
end Go.Proofs.YteegkblkfdnfiaaGreat

namespace Go.Proofs.YteegkblkfdnfiaaGreat
open Go.RowKit Go.Maps
set_option linter.unusedVariables false
attribute [local go_sem ↓] Go.wp_at_zero Go.wp_at_succ

def mrgCode (t L : List En) : Int := if treFaultP t = 0 then (if layFaultP L = 0 then (if 40 < (mergeE t L).length then 2 else 0) else layFaultP L) else treFaultP t
def mrgList (t L : List En) : List En := if mrgCode t L = 0 then mergeE t L else []
theorem mrg_tree {t L : List En} (h : treFaultP t ≠ 0) : mrgCode t L = treFaultP t ∧ mrgList t L = [] := by
  have h1 : mrgCode t L = treFaultP t := by rw [mrgCode, if_neg h]
  exact ⟨h1, by rw [mrgList, if_neg (by rw [h1]; exact h)]⟩
theorem mrg_layer {t L : List En} (h : treFaultP t = 0) (h2 : layFaultP L ≠ 0) : mrgCode t L = layFaultP L ∧ mrgList t L = [] := by
  have h1 : mrgCode t L = layFaultP L := by rw [mrgCode, if_pos h, if_neg h2]
  exact ⟨h1, by rw [mrgList, if_neg (by rw [h1]; exact h2)]⟩
theorem mrg_many {t L : List En} (h : treFaultP t = 0) (h2 : layFaultP L = 0) (h3 : 40 < (mergeE t L).length) : mrgCode t L = 2 ∧ mrgList t L = [] := by
  have h1 : mrgCode t L = 2 := by rw [mrgCode, if_pos h, if_pos h2, if_pos h3]
  exact ⟨h1, by rw [mrgList, if_neg (by rw [h1]; decide)]⟩
theorem mrg_ok {t L : List En} (h : treFaultP t = 0) (h2 : layFaultP L = 0) (h3 : ¬ 40 < (mergeE t L).length) : mrgCode t L = 0 ∧ mrgList t L = mergeE t L := by
  have h1 : mrgCode t L = 0 := by rw [mrgCode, if_pos h, if_pos h2, if_neg h3]
  exact ⟨h1, by rw [mrgList, if_pos h1]⟩
theorem merge_next {t L : List En} {k : Nat} {e : En} (he : L[k]? = some e) : mergeE t (L.take (k + 1)) = overE (mergeE t (L.take k)) e := by
  rw [take_next he]; simp [mergeE, List.foldl_append]

set_option maxRecDepth 100000 in
set_option maxHeartbeats 3200000 in
theorem implMergeLayer_any (a : Option Addr) (c n : Nat) (t : List En) (b : Option Addr) (d m : Nat) (L : List En) (w : World) (h : RdE w a t) (hn : n = t.length) (hl : t.length ≤ 1000000) (hs : SmallE t) (h2 : RdE w b L) (hm : m = L.length) (hl2 : L.length ≤ 1000000) (hs2 : SmallE L) :
    Calls Tryz.prog 53 #[.slice a n c, .slice b m d] w (ResT (mrgCode t L) 0 (mrgList t L) w) := by
  subst hn hm
  have X0 := hide (Box3.new w (.int .i64 0) (.int .i64 0) (.slice none 0 0) 40)
  have B0 := hide (below_alloc w (.cells #[.int .i64 0, .int .i64 0, .slice none 0 0] 40))
  have HR := hide h
  have HS := hide hs
  have HR2 := hide h2
  have HS2 := hide hs2
  clear h hs h2 hs2
  go_enter Tryz.func53, Tryz.ntmps53
  go_wp2_with fail
  refine (implTreeFault_any a c t.length t _ (HR.out.below B0.out) rfl (by omega) HS.out).mono ?_
  rintro r w1 ⟨rfl, hb1⟩
  have B1 := hide (below_next B0.out hb1)
  have X1 := hide (X0.out.below hb1)
  have hb0 : w.heap.size < w1.heap.size := X1.out.lt
  clear hb1 X0 B0
  by_cases hz : treFaultP t = 0
  · have HZ := hide hz
    rw [hz]
    clear hz
    go_wp2_with fail
    refine (implLayerFault_any b d L.length L _ (HR2.out.below B1.out) rfl (by omega) HS2.out).mono ?_
    rintro r w2 ⟨rfl, hb2⟩
    have B2 := hide (below_next B1.out hb2)
    have X2 := hide (X1.out.below hb2)
    have hs12 := hb2.size
    clear hb2 X1
    by_cases hz2 : layFaultP L = 0
    · have HZ2 := hide hz2
      have HRT := hide (rightT_fit.1 (rightT_P.1 HZ.out))
      have HRL := hide (right_fit.1 (right_P.1 hz2))
      have hl40 := HRT.out.2
      have hl12 := HRL.out.2
      rw [hz2]
      clear hz2
      go_wp2_with fail
      refine (treeOf_any a c t.length t _ (HR.out.below B2.out) rfl (by omega)).mono ?_
      rintro r w3 ⟨av, cv, rfl, hL, hb3⟩
      have RI := hide (hL.rd hb3)
      have B3 := hide (below_next B2.out hb3)
      have BX3 := hide hb3
      clear hL hb3
      go_wp2_with fail
      go_loopw [7, 26] (fun v i wr => ∃ (k : Nat) (va : Option Addr) (vc : Nat), k ≤ L.length ∧ i = .int .i64 k ∧ v = .slice va (mergeE t (L.take k)).length vc ∧ Hid (RdI wr va (mergeE t (L.take k))) ∧ Hid (Below w2.heap.size w2 wr)) (fun _ i _ => L.length - (intOf i).toNat)
      case atStart => exact ⟨0, av, cv, Nat.zero_le _, rfl, rfl, hide RI.out, hide BX3.out⟩
      case round =>
        obtain ⟨k, va, vc, hk, rfl, rfl, HI, HW⟩ := hrel
        have hml := merge_len (L.take k) t
        rw [List.length_take] at hml
        by_cases hlt : k < L.length
        · obtain ⟨bb, off, e, x, cc, rfl, hbb, he, c0, c1, c2, c3, hr⟩ := (HR2.out.below (below_next B2.out HW.out)).at hlt
          have hee := HRL.out.1.ent e (List.mem_of_getElem? he)
          have HX := hide he
          have HRc := hide hr
          have HFk := hide (merge_view HRT.out.1 HRL.out.1 k hk).1
          have HN := hide (merge_next (t := t) he)
          clear he hr
          have BA := hide (below_alloc wr (.cells #[.string (str e.path), .int .i64 e.kind, .int .i64 e.size, .slice x e.chunks.length cc] 50))
          generalize mergeE t (L.take k) = M at *
          go_wp2_with fail
          refine (itemOf_any (str e.path) e.kind e.size x e.chunks.length cc _).mono ?_
          rintro r w4 ⟨rfl, hb4⟩
          have BB4 := hide (below_next BA.out hb4)
          clear hb4 c0 c1 c2 c3
          go_wp2_with fail
          refine (saidBy_any e x cc _ (ent_kinds hee)).mono ?_
          rintro r w5 ⟨rfl, hb5⟩
          have BB5 := hide (below_next BB4.out hb5)
          clear hb5
          go_wp2_with fail
          refine (laidOver_any va vc M.length M e x cc _ (HI.out.below BB5.out) rfl (by omega) HFk.out hee (HRc.out.below BB5.out)).mono ?_
          rintro r w6 ⟨av6, cv6, rfl, hri6, hb6⟩
          have BB6 := hide (below_next BB5.out hb6)
          have RI6 := hide hri6
          clear hri6 hb6
          rw [← HN.out] at RI6 ⊢
          go_wp2_with fail
          go_roundw
          case rel => exact ⟨k + 1, av6, cv6, by omega, by go_num, rfl, RI6, hide (below_next HW.out BB6.out)⟩
          case measure => simp [intOf]; omega
        · have HE := hide (show L.take k = L from List.take_of_length_le (by omega))
          rw [HE.out] at HI hml ⊢
          clear HE
          have HFl := hide (merge_fit HRT.out.1 HRL.out.1)
          have HSm := hide HFl.out.fit.small
          by_cases h40 : 40 < (mergeE t L).length
          · have HCC := hide (mrg_many HZ.out HZ2.out h40)
            have hg40 : (40 : Int) < ((mergeE t L).length : Int) := by omega
            obtain ⟨⟨t0, t1, t2⟩, t3, t4, t5⟩ := X2.out.below HW.out
            go_wp2_with fail
            exact bodyPost_ret (v := .agg #[.int .i64 2, .int .i64 0, .slice none 0 0]) (by simp [results, Tryz.results53, go_sem, t0, t1, t2]) rfl (by rw [HCC.out.1, HCC.out.2]; exact ResT.bad (Nat.le_refl _) (below_next B2.out HW.out))
          · have HCC := hide (mrg_ok HZ.out HZ2.out h40)
            have hg40 : ¬ (40 : Int) < ((mergeE t L).length : Int) := by omega
            generalize mergeE t L = M at *
            go_wp2_with fail
            refine (entriesOf_any _ _ _ M _ HI.out rfl (by omega) HSm.out).mono ?_
            rintro r w6 ⟨av6, cv6, rfl, hG6, hb6⟩
            have BB6 := hide (below_next HW.out hb6)
            obtain ⟨⟨t0, t1, t2⟩, t3, t4, t5⟩ := X2.out.below BB6.out
            have G6 := hide hG6
            have hs5 := HW.out.size
            have B6 := hide (below_next B2.out BB6.out)
            clear hG6 hb6
            go_wp2_with fail
            exact bodyPost_ret (v := .agg #[.int .i64 0, .int .i64 0, .slice av6 M.length cv6]) (by simp [results, Tryz.results53, go_sem, t0, t1, t2]) rfl (by rw [HCC.out.1, HCC.out.2]; exact ResT.of (by omega) (Nat.le_refl _) rfl G6.out B6.out)
    · have HCC := hide (mrg_layer HZ.out hz2)
      generalize layFaultP L = F at *
      have hz3 : (F != 0) = true := by simp; exact hz2
      clear hz2
      obtain ⟨⟨t0, t1, t2⟩, t3, t4, t5⟩ := X2.out
      go_wp2_with fail
      exact bodyPost_ret (v := .agg #[.int .i64 F, .int .i64 0, .slice none 0 0]) (by simp [results, Tryz.results53, go_sem, t0, t1, t2]) rfl (by rw [HCC.out.1, HCC.out.2]; exact ResT.bad (Nat.le_refl _) B2.out)
  · have HCC := hide (mrg_tree (L := L) hz)
    generalize treFaultP t = F at *
    have hz3 : (F != 0) = true := by simp; exact hz
    clear hz
    obtain ⟨⟨t0, t1, t2⟩, t3, t4, t5⟩ := X1.out
    go_wp2_with fail
    exact bodyPost_ret (v := .agg #[.int .i64 F, .int .i64 0, .slice none 0 0]) (by simp [results, Tryz.results53, go_sem, t0, t1, t2]) rfl (by rw [HCC.out.1, HCC.out.2]; exact ResT.bad (Nat.le_refl _) B1.out)
end Go.Proofs.YteegkblkfdnfiaaGreat

namespace Go.Proofs.YteegkblkfdnfiaaGreat
open Go.RowKit Go.Maps
set_option linter.unusedVariables false
attribute [local go_sem ↓] Go.wp_at_zero Go.wp_at_succ

def malOK (ls : List (List En)) : Bool := (List.range (ls.length + 1)).all fun j => decide ((allE (ls.take j)).length ≤ 40)
def malC (ls : List (List En)) : Int := if layersP ls = 0 then (if malOK ls then 0 else 2) else layersP ls
def malL (ls : List (List En)) : List En := if malC ls = 0 then allE ls else []
theorem mal_bad {ls : List (List En)} (h : layersP ls ≠ 0) : malC ls = layersP ls ∧ malL ls = [] := by
  have h1 : malC ls = layersP ls := by rw [malC, if_neg h]
  exact ⟨h1, by rw [malL, if_neg (by rw [h1]; exact h)]⟩
theorem mal_many {ls : List (List En)} {k : Nat} (h : layersP ls = 0) (hk : k ≤ ls.length) (h40 : 40 < (allE (ls.take k)).length) : malC ls = 2 ∧ malL ls = [] := by
  have h0 : malOK ls = false := by
    rw [malOK, List.all_eq_false]
    exact ⟨k, List.mem_range.2 (by omega), by simp; omega⟩
  have h1 : malC ls = 2 := by rw [malC, if_pos h, h0]; rfl
  exact ⟨h1, by rw [malL, if_neg (by rw [h1]; decide)]⟩
theorem mal_ok {ls : List (List En)} (h : layersP ls = 0) (h40 : ∀ j, j ≤ ls.length → (allE (ls.take j)).length ≤ 40) : malC ls = 0 ∧ malL ls = allE ls := by
  have h0 : malOK ls = true := by
    rw [malOK, List.all_eq_true]
    intro j hj
    exact decide_eq_true (h40 j (by have := List.mem_range.1 hj; omega))
  have h1 : malC ls = 0 := by rw [malC, if_pos h, h0]; rfl
  exact ⟨h1, by rw [malL, if_pos h1]⟩
theorem all_next {ls : List (List En)} {k : Nat} {L : List En} (he : ls[k]? = some L) : allE (ls.take (k + 1)) = mergeE (allE (ls.take k)) L := by
  rw [List.take_add_one, he]; exact allE_snoc _ _

theorem Box3.set {w : World} {b : Nat} {u0 u1 u2 : Value} (h : Box3 w b u0 u1 u2) (v0 v1 v2 : Value) : Box3 (((w.setCell ⟨b, 0, none⟩ v0).setCell ⟨b, 1, none⟩ v1).setCell ⟨b, 2, none⟩ v2) b v0 v1 v2 := by
  obtain ⟨⟨c0, c1, c2⟩, f0, f1, f2⟩ := h
  refine ⟨⟨?_, ?_, ?_⟩, ?_, ?_, ?_⟩ <;> simp [go_sem, c0, c1, c2, f0, f1, f2]

set_option maxRecDepth 100000 in
set_option maxHeartbeats 3200000 in
theorem implMergeAll_any (a : Option Addr) (c n : Nat) (ls : List (List En)) (w : World) (h : RdL w a ls) (hn : n = ls.length) (hl : ls.length ≤ 1048576) (hs : SmallL ls) :
    Calls Tryz.prog 13 #[.slice a n c] w (ResT (malC ls) 0 (malL ls) w) := by
  subst hn
  have X0 := hide (Box3.new w (.int .i64 0) (.int .i64 0) (.slice none 0 0) 40)
  have B0 := hide (below_alloc w (.cells #[.int .i64 0, .int .i64 0, .slice none 0 0] 40))
  have HR := hide h
  have HSL := hide hs
  have HLF := hide (implLayersFault_any a c ls.length ls _ (h.below B0.out) rfl hl hs)
  clear h hs
  by_cases hz : layersP ls = 0
  · obtain ⟨h4, hRs⟩ := layersP_zero.1 hz
    rw [hz] at HLF
    have HZ := hide hz
    have HRs := hide hRs
    have HFs := hide (rights_fit hRs)
    clear hz hRs
    go_enter Tryz.func13, Tryz.ntmps13
    go_wp2_with fail
    refine HLF.out.mono ?_
    rintro r w1 ⟨rfl, hb1⟩
    have B1 := hide (below_next B0.out hb1)
    have X1 := hide (X0.out.below hb1)
    have hlt1 : w.heap.size < w1.heap.size := X1.out.lt
    have BA := hide (below_alloc w1 (.cells #[.int .i64 0, .int .i64 0, .slice none 0 0] 40))
    have X2 := hide (X1.out.below BA.out)
    have Y2 := hide (Box3.new w1 (.int .i64 0) (.int .i64 0) (.slice none 0 0) 40)
    have B2 := hide (below_next B1.out BA.out)
    have hs2 : (w1.alloc (.cells #[.int .i64 0, .int .i64 0, .slice none 0 0] 40)).heap.size = w1.heap.size + 1 := by simp
    clear hb1 X0 B0 HLF X1 B1 BA
    go_wp2_with fail
    go_loopw [15] (fun i wr => ∃ (k : Nat) (va : Option Addr) (vc : Nat), k ≤ ls.length ∧ i = .int .i64 k ∧ Hid (Box3 wr w1.heap.size (.int .i64 0) (.int .i64 0) (.slice va (allE (ls.take k)).length vc)) ∧ Hid (Box3 wr w.heap.size (.int .i64 0) (.int .i64 0) (.slice none 0 0)) ∧ Hid (GE (w1.heap.size + 1) wr.heap.size wr (.slice va (allE (ls.take k)).length vc) (allE (ls.take k))) ∧ Hid (Below w.heap.size w wr) ∧ Hid (∀ j, j ≤ k → (allE (ls.take j)).length ≤ 40) ∧ w1.heap.size < wr.heap.size) (fun i _ => ls.length - (intOf i).toNat)
    case atStart => exact ⟨0, none, 0, Nat.zero_le _, rfl, Y2, X2, hide (GE.nil _ _ _), B2, hide (fun j hj => by rw [Nat.le_zero.1 hj]; simp [allE]), by omega⟩
    case round =>
      obtain ⟨k, va, vc, hk, rfl, HY, HX, HG, HW, HJ, hsz⟩ := hrel
      have hfk := (all_view HFs.out k hk).1
      have h40 := HJ.out k (Nat.le_refl _)
      by_cases hlt : k < ls.length
      · obtain ⟨bb, off, L, x, cc, rfl, hbb, he, c0, hr⟩ := (HR.out.below HW.out).at hlt
        obtain ⟨hel, hsm⟩ := HSL.out L (List.mem_of_getElem? he)
        have hRL := HRs.out L (List.mem_of_getElem? he)
        have hL12 := hRL.len
        have HN := hide (all_next he)
        have hm := implMergeLayer_any va vc _ (allE (ls.take k)) x cc L.length L wr HG.out.rd rfl (by omega) hfk.fit.small hr rfl (by omega) hsm
        have htz := rightT_P.2 (rightT_fit.2 ⟨hfk, h40⟩)
        have hlz := right_P.2 hRL
        obtain ⟨⟨y0, y1, y2⟩, y3, y4, y5⟩ := HY.out
        by_cases hmany : 40 < (mergeE (allE (ls.take k)) L).length
        · have HCC := hide (mal_many HZ.out (k := k + 1) (by omega) (by rw [HN.out]; exact hmany))
          rw [(mrg_many htz hlz hmany).1, (mrg_many htz hlz hmany).2] at hm
          have HM := hide hm
          clear hm htz hlz hmany hRL hr he hfk h40
          go_wp2_with fail
          refine HM.out.mono ?_
          rintro r w3 ⟨av3, cv3, rfl, hG3, hb3⟩
          have B3 := hide (below_next HW.out hb3)
          have G3 := hide hG3
          have hsb := hb3.size
          obtain ⟨⟨x0', x1', x2'⟩, x3', x4', x5'⟩ := HX.out.below hb3
          obtain ⟨⟨y0', y1', y2'⟩, y3', y4', y5'⟩ := HY.out.below hb3
          have hne : w.heap.size ≠ w1.heap.size := by omega
          have hne2 : w1.heap.size ≠ w.heap.size := by omega
          clear hG3 hb3 y0 y1 y2 y3 y4 y5 c0
          go_wp2_with fail
          have hs3 : (((w3.setCell ⟨w1.heap.size, 0, none⟩ (.int .i64 2)).setCell ⟨w1.heap.size, 1, none⟩ (.int .i64 0)).setCell ⟨w1.heap.size, 2, none⟩ (.slice av3 0 cv3)).heap.size = w3.heap.size := by simp [World.setCell]
          have G4 := hide (G3.out.kept (Kept.three w3 w1.heap.size (.int .i64 2) (.int .i64 0) (.slice av3 0 cv3)) (fun y h1 _ h2 => by omega))
          have B4 := hide (show Below w.heap.size w (((w3.setCell ⟨w1.heap.size, 0, none⟩ (.int .i64 2)).setCell ⟨w1.heap.size, 1, none⟩ (.int .i64 0)).setCell ⟨w1.heap.size, 2, none⟩ (.slice av3 0 cv3)) from ((B3.out.setCell (p := ⟨w1.heap.size, 0, none⟩) (Nat.le_of_lt hlt1) _).setCell (p := ⟨w1.heap.size, 1, none⟩) (Nat.le_of_lt hlt1) _).setCell (p := ⟨w1.heap.size, 2, none⟩) (Nat.le_of_lt hlt1) _)
          rw [← hs3] at G4
          have Z4 := hide ((Box3.kept ⟨⟨x0', x1', x2'⟩, x3', x4', x5'⟩ (Kept.three w3 w1.heap.size (.int .i64 2) (.int .i64 0) (.slice av3 0 cv3)) hne))
          generalize ((w3.setCell ⟨w1.heap.size, 0, none⟩ (.int .i64 2)).setCell ⟨w1.heap.size, 1, none⟩ (.int .i64 0)).setCell ⟨w1.heap.size, 2, none⟩ (.slice av3 0 cv3) = W4 at *
          obtain ⟨⟨t0, t1, t2⟩, t3, t4, t5⟩ := Z4.out
          exact bodyPost_ret (v := .agg #[.int .i64 2, .int .i64 0, .slice av3 0 cv3]) (by simp [results, Tryz.results13, go_sem, t0, t1, t2]) rfl (by rw [HCC.out.1, HCC.out.2]; exact ResT.of (es := []) (by omega) (Nat.le_refl _) rfl G4.out B4.out)
        · rw [(mrg_ok htz hlz hmany).1, (mrg_ok htz hlz hmany).2] at hm
          have HM := hide hm
          have HJ2 := hide (show ∀ j, j ≤ k + 1 → (allE (ls.take j)).length ≤ 40 from fun j hj => by
            by_cases e : j = k + 1
            · rw [e, HN.out]; omega
            · exact HJ.out j (by omega))
          clear hm htz hlz hmany hRL hr he hfk h40 HJ
          go_wp2_with fail
          refine HM.out.mono ?_
          rintro r w3 ⟨av3, cv3, rfl, hG3, hb3⟩
          rw [← HN.out] at hG3 ⊢
          have B3 := hide (below_next HW.out hb3)
          have G3 := hide hG3
          have hsb := hb3.size
          obtain ⟨⟨x0', x1', x2'⟩, x3', x4', x5'⟩ := HX.out.below hb3
          obtain ⟨⟨y0', y1', y2'⟩, y3', y4', y5'⟩ := HY.out.below hb3
          have hne : w.heap.size ≠ w1.heap.size := by omega
          have hne2 : w1.heap.size ≠ w.heap.size := by omega
          clear hG3 hb3 y0 y1 y2 y3 y4 y5 c0 HM HN
          go_wp2_with fail
          have hs3 : (((w3.setCell ⟨w1.heap.size, 0, none⟩ (.int .i64 0)).setCell ⟨w1.heap.size, 1, none⟩ (.int .i64 0)).setCell ⟨w1.heap.size, 2, none⟩ (.slice av3 (allE (ls.take (k + 1))).length cv3)).heap.size = w3.heap.size := by simp [World.setCell]
          have G4 := hide ((G3.out.kept (Kept.three w3 w1.heap.size (.int .i64 0) (.int .i64 0) (.slice av3 (allE (ls.take (k + 1))).length cv3)) (fun y h1 _ h2 => by omega)).mono (B' := w1.heap.size + 1) (by omega))
          have B4 := hide (show Below w.heap.size w (((w3.setCell ⟨w1.heap.size, 0, none⟩ (.int .i64 0)).setCell ⟨w1.heap.size, 1, none⟩ (.int .i64 0)).setCell ⟨w1.heap.size, 2, none⟩ (.slice av3 (allE (ls.take (k + 1))).length cv3)) from ((B3.out.setCell (p := ⟨w1.heap.size, 0, none⟩) (Nat.le_of_lt hlt1) _).setCell (p := ⟨w1.heap.size, 1, none⟩) (Nat.le_of_lt hlt1) _).setCell (p := ⟨w1.heap.size, 2, none⟩) (Nat.le_of_lt hlt1) _)
          rw [← hs3] at G4
          have Z4 := hide ((Box3.kept ⟨⟨x0', x1', x2'⟩, x3', x4', x5'⟩ (Kept.three w3 w1.heap.size (.int .i64 0) (.int .i64 0) (.slice av3 (allE (ls.take (k + 1))).length cv3)) hne))
          have Y4 := hide (Box3.set ⟨⟨y0', y1', y2'⟩, y3', y4', y5'⟩ (.int .i64 0) (.int .i64 0) (.slice av3 (allE (ls.take (k + 1))).length cv3))
          clear x0' x1' x2' x3' x4' x5' y0' y1' y2' y3' y4' y5' G3 B3
          have hsz4 : w1.heap.size < (((w3.setCell ⟨w1.heap.size, 0, none⟩ (.int .i64 0)).setCell ⟨w1.heap.size, 1, none⟩ (.int .i64 0)).setCell ⟨w1.heap.size, 2, none⟩ (.slice av3 (allE (ls.take (k + 1))).length cv3)).heap.size := by omega
          clear hs3
          generalize ((w3.setCell ⟨w1.heap.size, 0, none⟩ (.int .i64 0)).setCell ⟨w1.heap.size, 1, none⟩ (.int .i64 0)).setCell ⟨w1.heap.size, 2, none⟩ (.slice av3 (allE (ls.take (k + 1))).length cv3) = W4 at *
          go_roundw
          case rel => exact ⟨k + 1, av3, cv3, by omega, by go_num, Y4, Z4, G4, B4, HJ2, hsz4⟩
          case measure => simp [intOf]; omega
      · obtain ⟨⟨x0', x1', x2'⟩, x3', x4', x5'⟩ := HX.out
        obtain ⟨⟨y0', y1', y2'⟩, y3', y4', y5'⟩ := HY.out
        have HE := hide (show ls.take k = ls from List.take_of_length_le (by omega))
        have HCC := hide (mal_ok HZ.out (fun j hj => HJ.out j (by omega)))
        rw [HE.out] at HG y2'
        clear HY HJ
        generalize allE ls = M at *
        go_wp2_with fail
        exact bodyPost_ret (v := .agg #[.int .i64 0, .int .i64 0, .slice va M.length vc]) (by simp [results, Tryz.results13, go_sem, x0', x1', x2']) rfl (by rw [HCC.out.1, HCC.out.2]; exact ResT.of (by omega) (Nat.le_refl _) rfl HG.out HW.out)
  · have HC := hide (mal_bad hz)
    generalize layersP ls = F at *
    have hz2 : (F != 0) = true := by simp; exact hz
    clear hz
    obtain ⟨⟨t0, t1, t2⟩, t3, t4, t5⟩ := X0.out
    go_enter Tryz.func13, Tryz.ntmps13
    go_wp2_with fail
    refine HLF.out.mono ?_
    rintro r w1 ⟨rfl, hb1⟩
    have B1 := hide (below_next B0.out hb1)
    clear t0 t1 t2 t3 t4 t5
    obtain ⟨⟨t0, t1, t2⟩, t3, t4, t5⟩ := X0.out.below hb1
    clear hb1
    go_wp2_with fail
    exact bodyPost_ret (v := .agg #[.int .i64 F, .int .i64 0, .slice none 0 0]) (by simp [results, Tryz.results13, go_sem, t0, t1, t2]) rfl (by rw [HC.out.1, HC.out.2]; exact ResT.bad (Nat.le_refl _) B1.out)
end Go.Proofs.YteegkblkfdnfiaaGreat

namespace Go.Proofs.YteegkblkfdnfiaaGreat
open Go.RowKit Go.Sort Go.Shelf
set_option linter.unusedVariables false
def Tryz.sortB_ren : Go.Shelf.Ren := ⟨fun | 6 => 237 | 15 => 167 | 14 => 257 | 28 => 219 | 29 => 220 | 20 => 269 | 21 => 270 | 22 => 271 | 23 => 272 | 24 => 273 | 25 => 274 | 26 => 275 | 27 => 276 | 46 => 280 | 47 => 249 | 48 => 250 | 49 => 281 | 50 => 282 | 57 => 283 | n => n, fun | 22 => 107 | 24 => 93 | 25 => 232 | 3 => 3 | 39 => 176 | 0 => 0 | 53 => 175 | 55 => 224 | 4 => 4 | 46 => 216 | 45 => 215 | 50 => 220 | 5 => 5 | 9 => 9 | 66 => 242 | 70 => 246 | 76 => 256 | 77 => 257 | n => n, fun | n => n⟩
theorem Tryz.sortB : Go.Proofs.SlLaysF0.n6 Tryz.prog Tryz.sortB_ren := {
  mixed := by kernel_rfl
  f6 := ⟨Tryz.f237.name, by decide, Tryz.func237.trans (congrArg some (by kernel_rfl))⟩
  f14 := ⟨Tryz.f257.name, by decide, Tryz.func257.trans (congrArg some (by kernel_rfl))⟩
  f15 := Tryz.func167.trans (congrArg some (by kernel_rfl))
  f20 := ⟨Tryz.f269.name, by decide, Tryz.func269.trans (congrArg some (by kernel_rfl))⟩
  f21 := ⟨Tryz.f270.name, by decide, Tryz.func270.trans (congrArg some (by kernel_rfl))⟩
  f22 := ⟨Tryz.f271.name, by decide, Tryz.func271.trans (congrArg some (by kernel_rfl))⟩
  f23 := ⟨Tryz.f272.name, by decide, Tryz.func272.trans (congrArg some (by kernel_rfl))⟩
  f24 := ⟨Tryz.f273.name, by decide, Tryz.func273.trans (congrArg some (by kernel_rfl))⟩
  f25 := ⟨Tryz.f274.name, by decide, Tryz.func274.trans (congrArg some (by kernel_rfl))⟩
  f26 := ⟨Tryz.f275.name, by decide, Tryz.func275.trans (congrArg some (by kernel_rfl))⟩
  f27 := ⟨Tryz.f276.name, by decide, Tryz.func276.trans (congrArg some (by kernel_rfl))⟩
  f28 := Tryz.func219.trans (congrArg some (by kernel_rfl))
  f29 := Tryz.func220.trans (congrArg some (by kernel_rfl))
  f46 := ⟨Tryz.f280.name, by decide, Tryz.func280.trans (congrArg some (by kernel_rfl))⟩
  f47 := Tryz.func249.trans (congrArg some (by kernel_rfl))
  f48 := Tryz.func250.trans (congrArg some (by kernel_rfl))
  f49 := ⟨Tryz.f281.name, by decide, Tryz.func281.trans (congrArg some (by kernel_rfl))⟩
  f50 := ⟨Tryz.f282.name, by decide, Tryz.func282.trans (congrArg some (by kernel_rfl))⟩
  f57 := ⟨Tryz.f283.name, by decide, Tryz.func283.trans (congrArg some (by kernel_rfl))⟩
  t0 := Tryz.underlying0
  a0 := Tryz.isAgg0
  z0 := Tryz.sizeOf0
  v0 := Tryz.zeroValue0
  t3 := Tryz.underlying3
  a3 := Tryz.isAgg3
  z3 := Tryz.sizeOf3
  v3 := Tryz.zeroValue3
  t4 := Tryz.underlying4
  a4 := Tryz.isAgg4
  z4 := Tryz.sizeOf4
  v4 := Tryz.zeroValue4
  t5 := Tryz.underlying5
  a5 := Tryz.isAgg5
  z5 := Tryz.sizeOf5
  v5 := Tryz.zeroValue5
  t9 := Tryz.underlying9
  a9 := Tryz.isAgg9
  z9 := Tryz.sizeOf9
  v9 := Tryz.zeroValue9
  t22 := Tryz.underlying107
  a22 := Tryz.isAgg107
  z22 := Tryz.sizeOf107
  v22 := Tryz.zeroValue107
  t25 := Tryz.underlying232
  a25 := Tryz.isAgg232
  z25 := Tryz.sizeOf232
  v25 := Tryz.zeroValue232
  t39 := Tryz.underlying176
  a39 := Tryz.isAgg176
  z39 := Tryz.sizeOf176
  v39 := Tryz.zeroValue176
  t45 := Tryz.underlying215
  a45 := Tryz.isAgg215
  z45 := Tryz.sizeOf215
  v45 := Tryz.zeroValue215
  t46 := Tryz.underlying216
  a46 := Tryz.isAgg216
  z46 := Tryz.sizeOf216
  v46 := Tryz.zeroValue216
  t50 := Tryz.underlying220
  a50 := Tryz.isAgg220
  z50 := Tryz.sizeOf220
  v50 := Tryz.zeroValue220
  t53 := Tryz.underlying175
  a53 := Tryz.isAgg175
  z53 := Tryz.sizeOf175
  v53 := Tryz.zeroValue175
  t55 := Tryz.underlying224
  a55 := Tryz.isAgg224
  z55 := Tryz.sizeOf224
  v55 := Tryz.zeroValue224
  t66 := Tryz.underlying242
  a66 := Tryz.isAgg242
  z66 := Tryz.sizeOf242
  v66 := Tryz.zeroValue242
  t70 := Tryz.underlying246
  a70 := Tryz.isAgg246
  z70 := Tryz.sizeOf246
  v70 := Tryz.zeroValue246
  t76 := Tryz.underlying256
  a76 := Tryz.isAgg256
  z76 := Tryz.sizeOf256
  v76 := Tryz.zeroValue256
  t77 := Tryz.underlying257
  a77 := Tryz.isAgg257
  z77 := Tryz.sizeOf257
  v77 := Tryz.zeroValue257 }
end Go.Proofs.YteegkblkfdnfiaaGreat

namespace Go.Proofs.YteegkblkfdnfiaaGreat
open Go.RowKit Go.Sort
set_option linter.unusedVariables false

set_option maxRecDepth 100000 in
set_option maxHeartbeats 1600000 in
theorem sortItems_any (B g n c : Nat) (rs ss : List Rw) (w : World) (h : w.ownsRow B 93 4 (.slice (some ⟨g, 0, none⟩) n c) n (rowI rs)) (hn : n = rs.length) (h12 : n ≤ 1048577) (hp : ss.Perm rs) (hs : ss.Pairwise (fun x y => Op.bytesLess x.e.path y.e.path = true)) :
    Calls Tryz.prog 237 #[.slice (some ⟨g, 0, none⟩) n c, .func (.func 233) #[] #[]] w fun e w' => e = .returned (.tuple #[]) ∧ (∀ i q r, ss[i]? = some r → q < 4 → w'.cell? ⟨g, i * 4 + q, none⟩ = (cellsI r)[q]?) ∧ Kept (fun b => b = g) w w' := by
  subst hn
  haveI : Inhabited Rw := ⟨⟨⟨[], 0, 0, []⟩, none, 0⟩⟩
  have hg := (h.lt g rfl).2
  have hH : HoldsK cellsI 4 w g 0 rs.toArray := by
    intro j hj
    rw [size_flatK] at hj
    have hj4 : j < rs.length * 4 := by simpa using hj
    have h1 : j / 4 < rs.length := by omega
    obtain ⟨r, hr⟩ : ∃ r, rs[j / 4]? = some r := ⟨_, List.getElem?_eq_getElem h1⟩
    have hc := (h.cellAt (j / 4 * 4 + j % 4) (by omega)).trans (rowI_get rs (j / 4) (j % 4) _ hr (by omega))
    rw [show j / 4 * 4 + j % 4 = j by omega] at hc
    refine ⟨?_, h.frozenAt _⟩
    rw [Nat.zero_add, hc, get_flatK _ _ _ _ hj]
    have e1 : rs.toArray[j / 4]! = r := by
      have := List.getElem?_eq_some_iff.1 hr
      simp [h1, this.2]
    rw [e1]
    have hl : j % 4 < (cellsI r).length := by show j % 4 < 4; omega
    simp only [id]
    rw [List.getElem?_eq_getElem hl, getElem!_pos (cellsI r) (j % 4) hl]
  have eg : ∀ args w, (callFunc 233 args).run Tryz.prog w = .ok (.enter 233 args) w := enters_of Tryz.func233 (by kernel_rfl) rfl
  have hcon := AnyQ.slices_SortFunc Tryz.sortB 4 Tryz.isAgg93 Tryz.sizeOf93 cellsI (fun _ => rfl) (fun x v hv => rowI_one [x] v (by simpa [rowI] using hv)) (fun x y => cmpB x.e.path y.e.path) swo_path 233 #[] g 0 c rs.toArray w eg (fun _ _ _ _ x y => sortLit_any x y _) hH hg (by have h2 := h12; simpa using (by omega : rs.length < 4611686018427387904))
  refine (show Calls Tryz.prog 237 #[.slice (some ⟨g, 0, none⟩) rs.length c, .func (.func 233) #[] #[]] w _ from hcon).mono ?_
  rintro e w' ⟨he, d', m, os, hperm, hsort, rfl⟩
  obtain ⟨hsz, _, hpm⟩ := hperm
  have hsz' : d'.size = rs.length := by simpa using hsz
  have hpm' : d'.toList.Perm rs := by
    have e1 : (d'.extract 0 rs.toArray.size).toList = d'.toList := by simp [← hsz']
    have e2 : (rs.toArray.extract 0 rs.toArray.size).toList = rs := by simp
    rw [e1, e2] at hpm
    exact hpm
  have hnd : ss.Pairwise (fun x y => x.e.path ≠ y.e.path) := hs.imp (fun h => bl_ne h)
  have hnd' : d'.toList.Pairwise (fun x y => x.e.path ≠ y.e.path) := (hpm'.trans hp.symm).symm.pairwise hnd (fun h => h.symm)
  have hd : d'.toList = ss := by
    refine rise_unique (hpm'.trans hp.symm) ?_ hs
    rw [List.pairwise_iff_getElem]
    intro i j hi hj hij
    have hne := List.pairwise_iff_getElem.1 hnd' i j hi hj hij
    have hlt := hsort i j (Nat.zero_le _) hij (by simpa [← hsz'] using hj)
    have e1 : ltOf (fun x y : Rw => cmpB x.e.path y.e.path) d'[j]! d'[i]! = Op.bytesLess d'[j]!.e.path d'[i]!.e.path := cmpB_lt _ _
    rw [e1] at hlt
    have hi' : i < d'.size := by simpa using hi
    have hj' : j < d'.size := by simpa using hj
    rw [getElem!_pos d' i hi', getElem!_pos d' j hj'] at hlt
    simp only [Array.getElem_toList] at hne ⊢
    exact bl_total _ _ hlt (fun x => hne x.symm)
  have hK := holdsK_sortWorldK_c cellsI 4 w g 0 rs.toArray d' m os hH hg (by simpa using hsz')
  refine ⟨he, fun i q r hi hq => ?_, ?_⟩
  · rw [← hd] at hi
    have hi' : i < d'.size := by have := (List.getElem?_eq_some_iff.1 hi).1; simpa using this
    have := (hK.cell (i := i) (c := q) hi' hq).1
    rw [Nat.zero_add] at this
    rw [this]
    have e1 : d'[i]! = r := by
      rw [getElem!_pos d' i hi']
      have := (List.getElem?_eq_some_iff.1 hi).2
      simpa using this
    rw [e1]
    have hl : q < (cellsI r).length := hq
    rw [List.getElem?_eq_getElem hl, getElem!_pos (cellsI r) q hl]
  · refine ⟨rfl, rfl, rfl, ?_, fun k hk hn => ?_⟩
    · show w.heap.size ≤ ((w.heap.modify g _) ++ os).size
      simp
    · show ((w.heap.modify g _) ++ os)[k]? = w.heap[k]?
      rw [Array.getElem?_append_left (by simpa using hk), Array.getElem?_modify]
      have : ¬ g = k := fun e => hn e.symm
      simp [this]

end Go.Proofs.YteegkblkfdnfiaaGreat

