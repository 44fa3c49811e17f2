/-
  The program's entries laid over a list: the closures that ask for what is below a path, an item put in its place, an entry as one of four types.
-/
import Derived.Test.YtjkmbicedbdifaaGreatTreI
import Derived.Test.YtjkmbicedbdifaaGreatJ3
import Derived.Deep.RegionHeld3
namespace Go.Proofs.YtjkmbicedbdifaaGreat
open Go.RowKit Go.Maps
set_option linter.unusedVariables false
attribute [local go_sem ↓] Go.wp_at_zero Go.wp_at_succ

theorem restP_eq {es : List En} {p : Bs} (h : ∀ x ∈ es, faultP x.path = 0) (hp : faultP p = 0) : (es.filter fun e => !(atBelow e.path p)) = restE es p true := by
  unfold restE
  apply List.filter_congr
  intro x hx
  rw [atBelow, isBelow_eq (h x hx) hp, goesE, Bool.true_and, Bool.or_comm]
theorem place_off {es : List En} {p : Bs} (h : ∀ x ∈ es, faultP x.path = 0) (hp : faultP p = 0) : offE (es.filter fun e => !(isBelow e.path p)) p = restE es p true := by
  unfold offE restE
  rw [List.filter_filter]
  apply List.filter_congr
  intro x hx
  rw [isBelow_eq (h x hx) hp, goesE, Bool.true_and, Bool.not_or, Bool.and_comm]
theorem Fit.small {es : List En} (h : Fit es) : SmallE es := by
  intro e he
  have h1 := path_len2 (h.path he)
  have h3 := entFault_chunks (h.ent e he)
  omega

set_option maxRecDepth 100000 in
set_option maxHeartbeats 800000 in
theorem isUnderLit_any (p : Bs) (b : Nat) (e : En) (a : Option Addr) (c : Nat) (w : World) (h : w.cell? ⟨b, 0, none⟩ = some (.string (str p))) (hl : e.path.length ≤ 1048576) :
    Calls Tryz.prog 136 #[.agg #[.int .i64 e.size, .slice a e.chunks.length c, .string (str e.path), .int .i64 e.kind], .pointer (some ⟨b, 0, none⟩)] w fun r w' => r = .returned (.bool (atBelow e.path p)) ∧ Below w.heap.size w w' := by
  have HB0 := hide (below_alloc w (.cells #[.int .i64 e.size, .slice a e.chunks.length c, .string (str e.path), .int .i64 e.kind] 64))
  have hb := World.block_lt_of_cell? w ⟨b, 0, none⟩ h
  have hbw := (HB0.out.cell (p := ⟨b, 0, none⟩) hb).trans h
  have HC := hide (fun (u : World) => isAtOrBelow_any e.path p e.kind e.size a e.chunks.length c u hl)
  generalize atBelow e.path p = Z at *
  go_enter Tryz.func136, Tryz.ntmps136
  go_wp2_with fail
  refine (HC.out _).mono ?_
  rintro r w1 ⟨rfl, hb1⟩
  have B1 := hide (below_next HB0.out hb1)
  clear hb1
  go_wp2_with fail
  go_ret
  exact ⟨rfl, B1.out⟩
theorem isUnder_any (p : Bs) (w : World) :
    Calls Tryz.prog 106 #[.string (str p)] w fun r w' => r = .returned (.func (.func 136) #[] #[.pointer (some ⟨w.heap.size, 0, none⟩)]) ∧ Below w.heap.size w w' ∧ Asks w' 136 #[.pointer (some ⟨w.heap.size, 0, none⟩)] (fun e => atBelow e.path p) := by
  have hmf : ∀ (fn : Fn) (first cap : Array Value) (w : World), (Instr.makeFunc fn first cap).run Tryz.prog w = .ok (.func fn first cap) w := fun _ _ _ _ => rfl
  go_enter Tryz.func106, Tryz.ntmps106
  go_wp2_with fail
  go_ret
  refine ⟨rfl, below_alloc _ _, enters_of Tryz.func136 (by kernel_rfl) rfl, fun e a c w' he _ _ hb => ?_⟩
  exact isUnderLit_any p w.heap.size e a c w' ((hb.cell (p := ⟨w.heap.size, 0, none⟩) (by simp)).trans (by simp)) he

set_option maxRecDepth 100000 in
set_option maxHeartbeats 800000 in
theorem isBelowLit_any (p : Bs) (b : Nat) (e : En) (a : Option Addr) (c : Nat) (w : World) (h : w.cell? ⟨b, 0, none⟩ = some (.string (str p))) (hl : e.path.length ≤ 1048576) :
    Calls Tryz.prog 165 #[.agg #[.int .i64 e.size, .slice a e.chunks.length c, .string (str e.path), .int .i64 e.kind], .pointer (some ⟨b, 0, none⟩)] w fun r w' => r = .returned (.bool (isBelow e.path p)) ∧ Below w.heap.size w w' := by
  have HB0 := hide (below_alloc w (.cells #[.int .i64 e.size, .slice a e.chunks.length c, .string (str e.path), .int .i64 e.kind] 64))
  have hb := World.block_lt_of_cell? w ⟨b, 0, none⟩ h
  have hbw := (HB0.out.cell (p := ⟨b, 0, none⟩) hb).trans h
  have HC := hide (fun (u : World) => implIsBelow_any (str e.path) (str p) u (by rw [str_size]; omega))
  rw [str_data, str_data] at HC
  generalize isBelow e.path p = Z at *
  go_enter Tryz.func165, Tryz.ntmps165
  go_wp2_with fail
  refine (HC.out _).mono ?_
  rintro r w1 ⟨rfl, hb1⟩
  have B1 := hide (below_next HB0.out hb1)
  clear hb1
  go_wp2_with fail
  go_ret
  exact ⟨rfl, B1.out⟩
theorem isBelow_any (p : Bs) (w : World) :
    Calls Tryz.prog 139 #[.string (str p)] w fun r w' => r = .returned (.func (.func 165) #[] #[.pointer (some ⟨w.heap.size, 0, none⟩)]) ∧ Below w.heap.size w w' ∧ Asks w' 165 #[.pointer (some ⟨w.heap.size, 0, none⟩)] (fun e => isBelow e.path p) := by
  have hmf : ∀ (fn : Fn) (first cap : Array Value) (w : World), (Instr.makeFunc fn first cap).run Tryz.prog w = .ok (.func fn first cap) w := fun _ _ _ _ => rfl
  go_enter Tryz.func139, Tryz.ntmps139
  go_wp2_with fail
  go_ret
  refine ⟨rfl, below_alloc _ _, enters_of Tryz.func165 (by kernel_rfl) rfl, fun e a c w' he _ _ hb => ?_⟩
  exact isBelowLit_any p w.heap.size e a c w' ((hb.cell (p := ⟨w.heap.size, 0, none⟩) (by simp)).trans (by simp)) he

set_option maxRecDepth 100000 in
set_option maxHeartbeats 800000 in
theorem isDirAtLit_any (p : Bs) (b : Nat) (e : En) (a : Option Addr) (c : Nat) (w : World) (h : w.cell? ⟨b, 0, none⟩ = some (.string (str p))) :
    Calls Tryz.prog 140 #[.agg #[.int .i64 e.size, .slice a e.chunks.length c, .string (str e.path), .int .i64 e.kind], .pointer (some ⟨b, 0, none⟩)] w fun r w' => r = .returned (.bool (decide (e.path = p) && dirK e.kind)) ∧ Below w.heap.size w w' := by
  have HB0 := hide (below_alloc w (.cells #[.int .i64 e.size, .slice a e.chunks.length c, .string (str e.path), .int .i64 e.kind] 64))
  have hb := World.block_lt_of_cell? w ⟨b, 0, none⟩ h
  have hbw := (HB0.out.cell (p := ⟨b, 0, none⟩) hb).trans h
  have HC := hide (fun (u : World) => isDir_any (str e.path) e.kind e.size a e.chunks.length c u)
  generalize dirK e.kind = Z at *
  by_cases hp : e.path = p
  · have hs1 := str_yes hp
    rw [decide_eq_true hp, Bool.true_and]
    clear hp
    go_enter Tryz.func140, Tryz.ntmps140
    go_wp2_with fail
    refine (HC.out _).mono ?_
    rintro r w1 ⟨rfl, hb1⟩
    have B1 := hide (below_next HB0.out hb1)
    clear hb1
    go_wp2_with fail
    cases Z
    · go_ret
      exact ⟨rfl, B1.out⟩
    · go_ret
      exact ⟨rfl, B1.out⟩
  · have hs1 := str_no hp
    rw [decide_eq_false hp, Bool.false_and]
    clear hp
    go_enter Tryz.func140, Tryz.ntmps140
    go_wp2_with fail
    go_ret
    exact ⟨rfl, HB0.out⟩
theorem isDirAt_any (p : Bs) (w : World) :
    Calls Tryz.prog 108 #[.string (str p)] w fun r w' => r = .returned (.func (.func 140) #[] #[.pointer (some ⟨w.heap.size, 0, none⟩)]) ∧ Below w.heap.size w w' ∧ Asks w' 140 #[.pointer (some ⟨w.heap.size, 0, none⟩)] (fun e => decide (e.path = p) && dirK e.kind) := by
  have hmf : ∀ (fn : Fn) (first cap : Array Value) (w : World), (Instr.makeFunc fn first cap).run Tryz.prog w = .ok (.func fn first cap) w := fun _ _ _ _ => rfl
  go_enter Tryz.func108, Tryz.ntmps108
  go_wp2_with fail
  go_ret
  refine ⟨rfl, below_alloc _ _, enters_of Tryz.func140 (by kernel_rfl) rfl, fun e a c w' he _ _ hb => ?_⟩
  exact isDirAtLit_any p w.heap.size e a c w' ((hb.cell (p := ⟨w.heap.size, 0, none⟩) (by simp)).trans (by simp))

set_option maxRecDepth 100000 in
set_option maxHeartbeats 3200000 in
theorem inPlace_any (a : Option Addr) (c n : Nat) (es : List En) (e : En) (x : Option Addr) (cc : Nat) (w : World) (h : RdI w a es) (hn : n = es.length) (hl : es.length ≤ 1048575) (hF : Fit es) (he : faultP e.path = 0) (hx : Reads .i64 w x e.chunks) :
    Calls Tryz.prog 107 #[.slice a n c, .agg #[.int .i64 e.size, .slice x e.chunks.length cc, .string (str e.path), .int .i64 e.kind]] w fun r w' => ∃ g cv, r = .returned (.slice (some ⟨g, 0, none⟩) (putAt (restE es e.path true) e).length cv) ∧ RdI w' (some ⟨g, 0, none⟩) (putAt (restE es e.path true) e) ∧ Below w.heap.size w w' := by
  subst hn
  have B0 := hide (below_alloc w (.cells #[.int .i64 e.size, .slice x e.chunks.length cc, .string (str e.path), .int .i64 e.kind] 64))
  have F0 := hide (Four.new w (.int .i64 e.size) (.slice x e.chunks.length cc) (.string (str e.path)) (.int .i64 e.kind) 64)
  have HR := hide (h.below B0.out)
  have HX := hide (hx.below B0.out)
  have HS := hide hF.small
  have HRi := hide (show Rise (es.filter fun e' => !(isBelow e'.path e.path)) from hF.rise.sublist List.filter_sublist)
  have HSf := hide (show SmallE (es.filter fun e' => !(isBelow e'.path e.path)) from fun y hy => hF.small y (List.mem_filter.1 hy).1)
  have HOF := hide (place_off (p := e.path) (fun y hy => hF.path hy) he)
  have hfl := List.length_filter_le (fun e' : En => !(isBelow e'.path e.path)) es
  clear h hx hF
  go_enter Tryz.func107, Tryz.ntmps107
  go_wp2_with fail
  generalize w.alloc (.cells #[.int .i64 e.size, .slice x e.chunks.length cc, .string (str e.path), .int .i64 e.kind] 64) = W0 at *
  have KC : Hid (∀ w' : World, Below W0.heap.size W0 w' → w'.cell? ⟨w.heap.size, 0, none⟩ = some (.int .i64 e.size) ∧ w'.cell? ⟨w.heap.size, 1, none⟩ = some (.slice x e.chunks.length cc) ∧ w'.cell? ⟨w.heap.size, 2, none⟩ = some (.string (str e.path)) ∧ w'.cell? ⟨w.heap.size, 3, none⟩ = some (.int .i64 e.kind)) := hide (fun w' hb => F0.out.below hb)
  obtain ⟨p0, p1, p2, p3⟩ := F0.out
  go_region_held3 (fun w' => w'.cell? ⟨w.heap.size, 0, none⟩ = some (.int .i64 e.size) ∧ w'.cell? ⟨w.heap.size, 1, none⟩ = some (.slice x e.chunks.length cc) ∧ w'.cell? ⟨w.heap.size, 2, none⟩ = some (.string (str e.path)) ∧ w'.cell? ⟨w.heap.size, 3, none⟩ = some (.int .i64 e.kind)) (first | exact KC.out _ BB3.out | exact KC.out _ BB2.out | exact KC.out _ BB1.out | go_keep)
    ((first
      | (go_at_call 139; refine (isBelow_any e.path _).mono ?_; rintro r w1 ⟨rfl, hb1, hA⟩; have HA := hide hA; have BB1 := hide ((Below.refl W0.heap.size W0).drew.trans hb1); clear hb1 hA)
      | (go_at_call 105; refine (without_any a c es.length es _ _ _ _ (HR.out.below BB1.out) rfl (by omega) HS.out (HA.out.next (Below.refl _ _))).mono ?_; rintro r w2 ⟨av2, cv2, v2, rfl, hL2, hb2, hb2'⟩; have BB2 := hide (below_next (below_next BB1.out hb2) hb2'); have RI2 := hide (hL2.rd hb2'); clear hL2 hb2 hb2')
      | (go_at_call 138; refine (withItem_any av2 cv2 _ _ e x cc _ RI2.out rfl (by omega) HSf.out HRi.out (HX.out.below BB2.out)).mono ?_; rintro r w3 ⟨g3, cv3, rfl, hri3, hb3⟩; have BB3 := hide (below_next BB2.out hb3); have RI3 := hide hri3; clear hri3 hb3)))
  rw [HOF.out] at RI3 ⊢
  go_wp2_with fail
  go_ret
  exact ⟨g3, cv3, rfl, RI3.out, below_next B0.out BB3.out⟩

/-- The type of an entry that says something. -/
def saidT (k : Int) : TypeId := if k = 1 then 140 else if k = 2 then 139 else if k = 3 then 136 else 137
/-- An entry as one of the four types. -/
def saidV (e : En) (x : Option Addr) (cc : Nat) : Value := .iface (saidT e.kind) (.agg #[.int .i64 e.size, .slice x e.chunks.length cc, .string (str e.path), .int .i64 e.kind])
set_option maxRecDepth 100000 in
set_option maxHeartbeats 800000 in
theorem saidBy_any (e : En) (x : Option Addr) (cc : Nat) (w : World) (hk : e.kind = 1 ∨ e.kind = 2 ∨ e.kind = 3 ∨ e.kind = 4) :
    Calls Tryz.prog 69 #[.agg #[.int .i64 e.size, .slice x e.chunks.length cc, .string (str e.path), .int .i64 e.kind]] w fun r w' => r = .returned (saidV e x cc) ∧ Below w.heap.size w w' := by
  have HE := hide (show saidV e x cc = .iface (saidT e.kind) (.agg #[.int .i64 e.size, .slice x e.chunks.length cc, .string (str e.path), .int .i64 e.kind]) from rfl)
  generalize saidV e x cc = V at *
  rcases hk with hk | hk | hk | hk
  all_goals
    rw [hk] at HE ⊢
    go_enter Tryz.func69, Tryz.ntmps69
    go_wp2_with fail
    go_ret
    exact ⟨by rw [HE.out]; rfl, below_alloc _ _⟩
end Go.Proofs.YtjkmbicedbdifaaGreat
