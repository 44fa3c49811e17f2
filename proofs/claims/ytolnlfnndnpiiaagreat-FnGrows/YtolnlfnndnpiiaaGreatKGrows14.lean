/-
  Texts put together: SnpH SnpI SnpJ SnpK.
-/
import Derived.Test.YtolnlfnndnpiiaaGreatKGrows13
import Derived.Test.YtolnlfnndnpiiaaGreatKGrows12
import Derived.Test.YtolnlfnndnpiiaaGreatKGrows9
namespace Go.Proofs.YtolnlfnndnpiiaaGreat
open Go.RowKit Go.Maps Go.Sort
set_option linter.unusedVariables false
attribute [local go_sem ↓] Go.wp_at_zero Go.wp_at_succ

theorem perm_lift {α β : Type} (f : α → β) {ys zs : List β} (h : ys.Perm zs) : ∀ xs : List α, xs.map f = ys → ∃ us : List α, us.Perm xs ∧ us.map f = zs := by
  induction h with
  | nil => intro xs hx; exact ⟨xs, List.Perm.refl _, hx⟩
  | cons b hp ih =>
    intro xs hx
    cases xs with
    | nil => simp at hx
    | cons x xs =>
      simp only [List.map_cons, List.cons.injEq] at hx
      obtain ⟨us, h1, h2⟩ := ih xs hx.2
      exact ⟨x :: us, h1.cons x, by rw [List.map_cons, h2, hx.1]⟩
  | swap b c l =>
    intro xs hx
    match xs, hx with
    | [], hx => simp at hx
    | [x], hx => simp at hx
    | x :: y :: xs, hx =>
      simp only [List.map_cons, List.cons.injEq] at hx
      exact ⟨y :: x :: xs, List.Perm.swap x y xs, by simp [hx.1, hx.2.1, hx.2.2]⟩
  | trans h1 h2 ih1 ih2 =>
    intro xs hx
    obtain ⟨us, p1, q1⟩ := ih1 xs hx
    obtain ⟨vs, p2, q2⟩ := ih2 us q1
    exact ⟨vs, p2.trans p1, q2⟩
theorem off_bond {l : List Sn} {s : Sn} (h : ∀ e ∈ l, e.name = s.name → e.parent = s.parent) : l.filter (fun e => !(e.name == s.name && e.parent == s.parent)) = offN l s.name := by
  unfold offN
  apply List.filter_congr
  intro e he
  by_cases hn : e.name = s.name
  · have := h e he hn
    simp [hn, this]
  · simp [hn]
theorem news_snap {u : World} {b : Nat} {s : Sn} {x : Option Addr} {cc : Nat} (h : Five u b (.string (str s.name)) (.string (str s.parent)) (.int .i64 s.kind) (.bool s.lease) (.slice x s.layer.length cc)) : ∀ j v, (cellsN ⟨s, x, cc⟩)[j]? = some v → u.cell? ((⟨b, 0, none⟩ : Addr).add j) = some v := by
  intro j v hj
  rw [add_addr, Nat.zero_add]
  obtain ⟨h0, h1, h2, h3, h4⟩ := h
  match j, hj with
  | 0, hj => simp [cellsN] at hj; subst hj; exact h0
  | 1, hj => simp [cellsN] at hj; subst hj; exact h1
  | 2, hj => simp [cellsN] at hj; subst hj; exact h2
  | 3, hj => simp [cellsN] at hj; subst hj; exact h3
  | 4, hj => simp [cellsN] at hj; subst hj; exact h4
set_option maxRecDepth 100000 in
set_option maxHeartbeats 1600000 in
theorem withoutSnapLit_any (s : Sn) (x : Option Addr) (cc : Nat) (b : Nat) (e : Sn) (a : Option Addr) (c : Nat) (w : World) (h : Five w b (.string (str s.name)) (.string (str s.parent)) (.int .i64 s.kind) (.bool s.lease) (.slice x s.layer.length cc)) :
    Calls Tryz.prog 97 #[.agg #[.string (str e.name), .string (str e.parent), .int .i64 e.kind, .bool e.lease, .slice a e.layer.length c], .pointer (some ⟨b, 0, none⟩)] w fun r w' => r = .returned (.bool (e.name == s.name && e.parent == s.parent)) ∧ Below w.heap.size w w' := by
  have B0 := hide (below_alloc w (.cells #[.string (str e.name), .string (str e.parent), .int .i64 e.kind, .bool e.lease, .slice a e.layer.length c] 37))
  have F1 := hide (h.below B0.out)
  have F2 := hide (Five.new w (.string (str e.name)) (.string (str e.parent)) (.int .i64 e.kind) (.bool e.lease) (.slice a e.layer.length c) 37)
  have HC1 := hide (fun u => bondOf_any e a c u)
  have HC2 := hide (fun u => bondOf_any s x cc u)
  have hbe : ((str e.name).toList == (str s.name).toList) = (e.name == s.name) := by rw [str_beq]; by_cases h : e.name = s.name <;> simp [h]
  have hbp : ((str e.parent).toList == (str s.parent).toList) = (e.parent == s.parent) := by rw [str_beq]; by_cases h : e.parent = s.parent <;> simp [h]
  generalize (e.name == s.name) = Z1 at *
  generalize (e.parent == s.parent) = Z2 at *
  clear h
  go_enter Tryz.func97, Tryz.ntmps97
  go_wp2_with fail
  generalize w.alloc (.cells #[.string (str e.name), .string (str e.parent), .int .i64 e.kind, .bool e.lease, .slice a e.layer.length c] 37) = W0 at *
  have KC : Hid (∀ w' : World, Below W0.heap.size W0 w' → Five w' w.heap.size (.string (str e.name)) (.string (str e.parent)) (.int .i64 e.kind) (.bool e.lease) (.slice a e.layer.length c) ∧ Five w' b (.string (str s.name)) (.string (str s.parent)) (.int .i64 s.kind) (.bool s.lease) (.slice x s.layer.length cc)) := hide (fun w' hb => ⟨F2.out.below hb, F1.out.below hb⟩)
  refine wp_region_held_drew (S := fun w' => Five w' w.heap.size (.string (str e.name)) (.string (str e.parent)) (.int .i64 e.kind) (.bool e.lease) (.slice a e.layer.length c) ∧ Five w' b (.string (str s.name)) (.string (str s.parent)) (.int .i64 s.kind) (.bool s.lease) (.slice x s.layer.length cc)) (by kernel_rfl) (KC.out _ (Below.refl _ _).drew) (fun hHeld => ?_)
  change wpAnyH _ _ _ _ _ _ (Array.replicate _ false) _ _
  refine wpAnyH_take (i := 0) (oi := { dst := some 4, op := _, type := _, pos := _, after := _, guard := _ }) (v := .agg #[.string (str e.name), .string (str e.parent), .int .i64 e.kind, .bool e.lease, .slice a e.layer.length c]) rfl (by kernel_rfl) (by kernel_rfl) (by kernel_rfl) (fun _ _ _ h => h) (Or.inl ⟨by rfl, ?_⟩) hHeld ?_
  · rintro w ⟨⟨q0, q1, q2, q3, q4⟩, p0, p1, p2, p3, p4⟩
    go_simp
  try simp only [Act.put, List.setIfInBounds_toArray, List.set_cons_zero, List.set_cons_succ]
  refine wpAnyH_take (i := 2) (oi := { dst := some 6, op := _, type := _, pos := _, after := _, guard := _ }) (v := .agg #[.string (str s.name), .string (str s.parent), .int .i64 s.kind, .bool s.lease, .slice x s.layer.length cc]) rfl (by kernel_rfl) (by kernel_rfl) (by kernel_rfl) (fun _ _ _ h => h) (Or.inl ⟨by rfl, ?_⟩) hHeld ?_
  · rintro w ⟨⟨q0, q1, q2, q3, q4⟩, p0, p1, p2, p3, p4⟩
    go_simp
  try simp only [Act.put, List.setIfInBounds_toArray, List.set_cons_zero, List.set_cons_succ]
  refine wpAnyH_ready (rs := [1]) (by kernel_rfl) (by simp) ?_
  refine AllReadyH.cons rfl (fun K hK => ?_) AllReadyH.nil
  · go_simp
    refine (HC1.out _).mono ?_
    rintro r w3 ⟨rfl, hb3⟩
    have B3 := hide (below_next ((Below.refl W0.heap.size W0).drew) hb3)
    clear hb3
    go_wp2_with fail
    refine hK.out _ _ (KC.out _ B3.out) (fun hHeld => ?_)
    clear hK K
    try simp only [Act.put, List.setIfInBounds_toArray, List.set_cons_zero, List.set_cons_succ]
    refine wpAnyH_ready (rs := [3]) (by kernel_rfl) (by simp) ?_
    refine AllReadyH.cons rfl (fun K hK => ?_) AllReadyH.nil
    go_simp
    refine (HC2.out _).mono ?_
    rintro r w4 ⟨rfl, hb4⟩
    have B4 := hide (below_next B3.out hb4)
    clear hb4
    go_wp2_with fail
    refine hK.out _ _ (KC.out _ B4.out) (fun hHeld => ?_)
    clear hK K
    try simp only [Act.put, List.setIfInBounds_toArray, List.set_cons_zero, List.set_cons_succ]
    refine wpAnyH_take (i := 4) (oi := { dst := some 8, op := _, type := _, pos := _, after := _, guard := _ }) (v := .bool (Z1 && Z2)) rfl (by kernel_rfl) (by kernel_rfl) (by kernel_rfl) (fun _ _ _ h => h) (Or.inl ⟨by rfl, ?_⟩) hHeld ?_
    · rintro w ⟨⟨q0, q1, q2, q3, q4⟩, p0, p1, p2, p3, p4⟩
      go_simp; (cases Z1 <;> cases Z2 <;> rfl)
    try simp only [Act.put, List.setIfInBounds_toArray, List.set_cons_zero, List.set_cons_succ]
    refine wpAnyH_take (i := 5) (oi := { dst := some 3, op := _, type := _, pos := _, after := _, guard := _ }) (v := .bool (Z1 && Z2)) rfl (by kernel_rfl) (by kernel_rfl) (by kernel_rfl) (fun _ _ _ h => h) (Or.inl ⟨by rfl, ?_⟩) hHeld ?_
    · rintro w ⟨⟨q0, q1, q2, q3, q4⟩, p0, p1, p2, p3, p4⟩
      go_simp
    try simp only [Act.put, List.setIfInBounds_toArray, List.set_cons_zero, List.set_cons_succ]
    refine wpAnyH_done (by kernel_rfl) ?_ _
    go_wp2_with fail
    go_ret
    exact ⟨rfl, below_next B0.out B4.out⟩
set_option maxRecDepth 100000 in
set_option maxHeartbeats 1600000 in
theorem withoutSnap_any (a : Option Addr) (c n : Nat) (l : List Sn) (s : Sn) (x : Option Addr) (cc : Nat) (w0 w : World) (hb0 : Below w0.heap.size w0 w) (h : RdS w0 a l) (hn : n = l.length) (hl : l.length ≤ 1048576) (hbd : ∀ e ∈ l, e.name = s.name → e.parent = s.parent) :
    Calls Tryz.prog 58 #[.slice a n c, .agg #[.string (str s.name), .string (str s.parent), .int .i64 s.kind, .bool s.lease, .slice x s.layer.length cc]] w fun r w' => ∃ av cv, r = .returned (.slice av (offN l s.name).length cv) ∧ LN w.heap.size w0 w' (.slice av (offN l s.name).length cv) (offN l s.name) ∧ Below w.heap.size w w' := by
  have hmf : ∀ (fn : Fn) (first cap : Array Value) (w : World), (Instr.makeFunc fn first cap).run Tryz.prog w = .ok (.func fn first cap) w := fun _ _ _ _ => rfl
  subst hn
  have B0 := hide (below_alloc w (.cells #[.string (str s.name), .string (str s.parent), .int .i64 s.kind, .bool s.lease, .slice x s.layer.length cc] 37))
  have HA : Hid (AsksN (w.alloc (.cells #[.string (str s.name), .string (str s.parent), .int .i64 s.kind, .bool s.lease, .slice x s.layer.length cc] 37)) 97 #[.pointer (some ⟨w.heap.size, 0, none⟩)] (fun e => e.name == s.name && e.parent == s.parent)) := hide ⟨enters_of Tryz.func97 (by kernel_rfl) rfl, fun e a c w' hb =>
    withoutSnapLit_any s x cc w.heap.size e a c w' ((Five.new w (.string (str s.name)) (.string (str s.parent)) (.int .i64 s.kind) (.bool s.lease) (.slice x s.layer.length cc) 37).below hb)⟩
  have HC := hide (withoutN_any a c l.length l _ _ (fun e => e.name == s.name && e.parent == s.parent) w0 _ (below_next hb0 B0.out) h rfl hl HA.out)
  rw [off_bond hbd] at HC
  clear h HA hb0 hbd
  go_enter Tryz.func58, Tryz.ntmps58
  go_wp2_with fail
  generalize w.alloc (.cells #[.string (str s.name), .string (str s.parent), .int .i64 s.kind, .bool s.lease, .slice x s.layer.length cc] 37) = W0 at *
  refine HC.out.mono ?_
  rintro r w1 ⟨av, cv, rfl, hL, hb1⟩
  have HL := hide hL
  have B1 := hide hb1
  clear hL hb1 HC
  go_wp2_with fail
  go_ret
  exact ⟨av, cv, rfl, HL.out.mono (by have := B0.out.size; omega), below_next B0.out B1.out⟩
end Go.Proofs.YtolnlfnndnpiiaaGreat

namespace Go.Proofs.YtolnlfnndnpiiaaGreat
open Go.RowKit Go.Maps Go.Sort
set_option linter.unusedVariables false
attribute [local go_sem ↓] Go.wp_at_zero Go.wp_at_succ

def ResS (q rep : Int) (l : List Sn) (w : World) (r : Ending) (w' : World) : Prop :=
  ∃ av cv, r = .returned (.agg #[.int .i64 q, .int .i64 rep, .slice av l.length cv]) ∧ HeldS w.heap.size w' av l ∧ Below w.heap.size w w'
theorem Kept.three' (w : World) (b : Nat) (u0 u1 u2 : Value) : Kept (fun x => x = b) w (((w.setCell ⟨b, 0, none⟩ u0).setCell ⟨b, 1, none⟩ u1).setCell ⟨b, 2, none⟩ u2) :=
  Kept.setCell (S := fun x => x = b) (p := ⟨b, 2, none⟩) (Kept.setCell (S := fun x => x = b) (p := ⟨b, 1, none⟩) (Kept.setCell (S := fun x => x = b) (p := ⟨b, 0, none⟩) (Kept.refl _ w) (fun _ => rfl) u0) (fun _ => rfl) u1) (fun _ => rfl) u2
theorem ResS.of {q rep : Int} {l : List Sn} {w w3 : World} {B b n : Nat} {av : Option Addr} {cv : Nat} {u0 u1 u2 : Value} (hB : b < B) (hw : w.heap.size ≤ b) (hn : n = l.length) (hG : HeldS B w3 av l) (hb : Below w.heap.size w w3) :
    ResS q rep l w (.returned (.agg #[.int .i64 q, .int .i64 rep, .slice av n cv])) (((w3.setCell ⟨b, 0, none⟩ u0).setCell ⟨b, 1, none⟩ u1).setCell ⟨b, 2, none⟩ u2) := by
  subst hn
  exact ⟨av, cv, rfl, fun w' hk => hG _ (((Kept.three' w3 b u0 u1 u2).mono (fun x _ e => by omega)).trans (hk.mono (fun x _ e => by omega))), ((hb.setCell (p := ⟨b, 0, none⟩) hw _).setCell (p := ⟨b, 1, none⟩) hw _).setCell (p := ⟨b, 2, none⟩) hw _⟩
set_option maxRecDepth 100000 in
set_option maxHeartbeats 1600000 in
theorem snapsStay_any (a : Option Addr) (c n : Nat) (l : List Sn) (q : Int) (w : World) (h : RdS w a l) (hn : n = l.length) (hl : l.length ≤ 1048576) (hs : SmallS l) :
    Calls Tryz.prog 55 #[.slice a n c, .int .i64 q] w (ResS 0 q l w) := by
  subst hn
  have X0 := hide (Box3.new w (.int .i64 0) (.int .i64 0) (.slice none 0 0) 28)
  have B0 := hide (below_alloc w (.cells #[.int .i64 0, .int .i64 0, .slice none 0 0] 28))
  have HC := hide (copiedSnaps_any a c l.length l _ (h.below B0.out) rfl hl hs)
  clear h hs
  go_enter Tryz.func55, Tryz.ntmps55
  go_wp2_with fail
  refine HC.out.mono ?_
  rintro r w1 ⟨av, cv, rfl, hG, hb1⟩
  have G1 := hide hG
  have B1 := hide (below_next B0.out hb1)
  have hlt : w.heap.size < (w.alloc (.cells #[.int .i64 0, .int .i64 0, .slice none 0 0] 28)).heap.size := X0.out.lt
  obtain ⟨⟨t0, t1, t2⟩, t3, t4, t5⟩ := X0.out.below hb1
  clear hG hb1
  go_wp2_with fail
  exact bodyPost_ret (v := .agg #[.int .i64 0, .int .i64 q, .slice av l.length cv]) (by simp [results, Tryz.results55, go_sem, t0, t1, t2]) rfl (ResS.of hlt (Nat.le_refl _) rfl G1.out B1.out)
theorem putN_len (l : List Sn) (s : Sn) : (putN l s).length = (offN l s.name).length + 1 := by
  have := (putN_perm l s).length_eq
  rw [List.length_append] at this
  exact this.symm
theorem withSnap_end (w u : World) (l : List Sn) (s : Sn) (x : Option Addr) (cc : Nat) (rs : List Rs) (av : Option Addr) (cv B : Nat) (hrs : rs.map Rs.s = offN l s.name) (hrd : ∀ r ∈ rs, RdE w r.a r.s.layer) (hx : RdE w x s.layer) (hB : Below w.heap.size w u) (hBB : w.heap.size ≤ B)
    (ho : u.ownsRow B 37 5 (.slice av ((offN l s.name).length + 1) cv) ((offN l s.name).length + 1) (rowN rs ++ cellsN ⟨s, x, cc⟩)) (hl : l.length ≤ 1048575) (hr : RiseN l) :
    ∃ g, av = some ⟨g, 0, none⟩ ∧ B ≤ g ∧ Calls Tryz.prog 113 #[.slice (some ⟨g, 0, none⟩) ((offN l s.name).length + 1) cv, .func (.func 114) #[] #[]] u fun r w' => r = .returned (.tuple #[]) ∧ RdS w' (some ⟨g, 0, none⟩) (putN l s) ∧ Kept (fun b => b = g) u w' := by
  obtain ⟨g, hgv, -⟩ := row_addr ho (.inl (by omega))
  subst hgv
  have hol : (offN l s.name).length ≤ l.length := List.length_filter_le _ _
  obtain ⟨ss, hperm, hmap⟩ := perm_lift Rs.s (putN_perm l s) (rs ++ [⟨s, x, cc⟩]) (by rw [List.map_append, hrs]; rfl)
  have hrise : ss.Pairwise (fun x y => Op.bytesLess x.s.name y.s.name = true) := by
    have := putN_rise hr s
    rw [← hmap] at this
    exact List.pairwise_map.1 this
  have ho2 : u.ownsRow B 37 5 (.slice (some ⟨g, 0, none⟩) ((offN l s.name).length + 1) cv) ((offN l s.name).length + 1) (rowN (rs ++ [⟨s, x, cc⟩])) := by rw [rowN_append]; simpa [rowN] using ho
  have hlen : (offN l s.name).length + 1 = (rs ++ [(⟨s, x, cc⟩ : Rs)]).length := by rw [List.length_append, ← hrs, List.length_map]; rfl
  have hgl := ho.lt g rfl
  refine ⟨g, rfl, hgl.1, (sortSnaps_any B g ((offN l s.name).length + 1) cv (rs ++ [⟨s, x, cc⟩]) ss u ho2 hlen (by omega) hperm hrise).mono ?_⟩
  rintro r w' ⟨rfl, hc, hk⟩
  have hB' : Below w.heap.size w w' := hB.trans (hk.below hB.size (fun q hq hS => by have : q = g := hS; omega))
  refine ⟨rfl, ?_, hk⟩
  rw [← hmap]
  intro hz
  refine ⟨g, 0, fun i => (ss[i]?.map Rs.a).getD none, fun i => (ss[i]?.map Rs.c).getD 0, rfl, Nat.lt_of_lt_of_le hgl.2 hk.size, fun i e hi => ?_⟩
  rw [List.getElem?_map] at hi
  cases hr2 : ss[i]? with
  | none => rw [hr2] at hi; cases hi
  | some r =>
    rw [hr2] at hi
    have he : r.s = e := by simpa using hi
    subst he
    simp only [hr2, Option.map_some, Option.getD_some, Nat.zero_add]
    have hm := hperm.subset (List.mem_of_getElem? hr2)
    have hRr : RdE w r.a r.s.layer := by
      rcases List.mem_append.1 hm with hm | hm
      · exact hrd r hm
      · simp only [List.mem_singleton] at hm; subst hm; exact hx
    exact ⟨hc i 0 r hr2 (by decide), hc i 1 r hr2 (by decide), hc i 2 r hr2 (by decide), hc i 3 r hr2 (by decide), hc i 4 r hr2 (by decide), hRr.below hB'⟩
set_option maxRecDepth 100000 in
set_option maxHeartbeats 6400000 in
theorem withSnap_any (a : Option Addr) (c n : Nat) (l : List Sn) (s : Sn) (x : Option Addr) (cc : Nat) (w : World) (h : RdS w a l) (hx : RdE w x s.layer) (hn : n = l.length) (hl : l.length ≤ 1048575) (hr : RiseN l) (hbd : ∀ e ∈ l, e.name = s.name → e.parent = s.parent) (hsm : SmallS (putN l s)) :
    Calls Tryz.prog 68 #[.slice a n c, .agg #[.string (str s.name), .string (str s.parent), .int .i64 s.kind, .bool s.lease, .slice x s.layer.length cc]] w (ResS 0 0 (putN l s) w) := by
  subst hn
  obtain ⟨i1, ki, kz0, kz1, kz2⟩ := info_parts Tryz.infoSn
  have BA := hide (below_alloc w (.cells #[.string (str s.name), .string (str s.parent), .int .i64 s.kind, .bool s.lease, .slice x s.layer.length cc] 37))
  have B0 := hide (below_next BA.out (below_alloc _ (.cells #[.int .i64 0, .int .i64 0, .slice none 0 0] 28)))
  have F0 := hide ((Five.new w (.string (str s.name)) (.string (str s.parent)) (.int .i64 s.kind) (.bool s.lease) (.slice x s.layer.length cc) 37).below (below_alloc _ (.cells #[.int .i64 0, .int .i64 0, .slice none 0 0] 28)))
  have X0 := hide (Box3.new (w.alloc (.cells #[.string (str s.name), .string (str s.parent), .int .i64 s.kind, .bool s.lease, .slice x s.layer.length cc] 37)) (.int .i64 0) (.int .i64 0) (.slice none 0 0) 28)
  have HR := hide h
  have HX := hide hx
  have HRI := hide hr
  have HBD := hide hbd
  have HSM := hide hsm
  have hol : (offN l s.name).length ≤ l.length := List.length_filter_le _ _
  have HPL := hide (putN_len l s)
  have hm1 : (offN l s.name).length + 1 ≤ maxLen := by unfold maxLen; omega
  have hm2 : ((offN l s.name).length + 1) * 72 ≤ 140737488355328 := by omega
  clear h hx hr hbd hsm
  go_enter Tryz.func68, Tryz.ntmps68
  go_wp2_with fail
  simp only [World.size_alloc] at X0
  have hsz0 : ((w.alloc (.cells #[.string (str s.name), .string (str s.parent), .int .i64 s.kind, .bool s.lease, .slice x s.layer.length cc] 37)).alloc (.cells #[.int .i64 0, .int .i64 0, .slice none 0 0] 28)).heap.size = w.heap.size + 2 := by simp
  generalize (w.alloc (.cells #[.string (str s.name), .string (str s.parent), .int .i64 s.kind, .bool s.lease, .slice x s.layer.length cc] 37)).alloc (.cells #[.int .i64 0, .int .i64 0, .slice none 0 0] 28) = W0 at *
  have KC : Hid (∀ w' : World, Below W0.heap.size W0 w' → Five w' w.heap.size (.string (str s.name)) (.string (str s.parent)) (.int .i64 s.kind) (.bool s.lease) (.slice x s.layer.length cc)) := hide (fun w' hb => F0.out.below hb)
  -- what follows the append
  have HEND : Hid (∀ (rs : List Rs) (u w7 : World) (av av7 : Option Addr) (cv cv7 : Nat), rs.map Rs.s = offN l s.name → (∀ r ∈ rs, RdE w r.a r.s.layer) → Below W0.heap.size W0 u → u.ownsRow (w.heap.size + 2) 37 5 (.slice av (offN l s.name).length cv) (offN l s.name).length (rowN rs) → w7.ownsRow (w.heap.size + 2) 37 5 (.slice av7 ((offN l s.name).length + 1) cv7) ((offN l s.name).length + 1) (rowN rs ++ cellsN ⟨s, x, cc⟩) → Kept (fun b => (Value.slice av (offN l s.name).length cv).ownBlock = some b) u w7 →
      Five w7 w.heap.size (.string (str s.name)) (.string (str s.parent)) (.int .i64 s.kind) (.bool s.lease) (.slice x s.layer.length cc) ∧ Box3 w7 (w.heap.size + 1) (.int .i64 0) (.int .i64 0) (.slice none 0 0) ∧ Below w.heap.size w w7 ∧ w.heap.size + 2 ≤ w7.heap.size ∧ ∃ g, av7 = some ⟨g, 0, none⟩ ∧ w.heap.size + 2 ≤ g ∧ Calls Tryz.prog 113 #[.slice (some ⟨g, 0, none⟩) ((offN l s.name).length + 1) cv7, .func (.func 114) #[] #[]] w7 fun r w' => r = .returned (.tuple #[]) ∧ RdS w' (some ⟨g, 0, none⟩) (putN l s) ∧ Kept (fun b => b = g) w7 w') := hide (by
    intro rs u w7 av av7 cv cv7 h1 h2 hu ho ho7 hk
    have hlow : ∀ b, b < w.heap.size + 2 → ¬ (Value.slice av (offN l s.name).length cv).ownBlock = some b := fun b hb hS => by have := (ho.lt b hS).1; omega
    have hus := hu.size
    have hB7 : Below w.heap.size w w7 := (below_next B0.out hu).trans (hk.below (by omega) (fun q hq => hlow q (by omega)))
    refine ⟨(F0.out.below hu).kept hk (hlow _ (by omega)), (X0.out.below hu).kept hk (hlow _ (by omega)), hB7, by have := hk.size; omega, ?_⟩
    exact withSnap_end w w7 l s x cc rs av7 cv7 (w.heap.size + 2) h1 h2 HX.out hB7 (by omega) ho7 hl HRI.out)
  refine wp_region_held_drew (S := fun w' => Five w' w.heap.size (.string (str s.name)) (.string (str s.parent)) (.int .i64 s.kind) (.bool s.lease) (.slice x s.layer.length cc)) (by kernel_rfl) (KC.out _ (Below.refl _ _).drew) (fun hHeld => ?_)
  change wpAnyH _ _ _ _ _ _ (Array.replicate _ false) _ _
  refine wpAnyH_take (i := 0) (oi := { dst := some 6, op := _, type := _, pos := _, after := _, guard := _ }) (v := .slice a l.length c) rfl (by kernel_rfl) (by kernel_rfl) (by kernel_rfl) (fun _ _ _ h => h) (Or.inl ⟨by rfl, ?_⟩) hHeld ?_
  · rintro w ⟨q0, q1, q2, q3, q4⟩
    go_simp
  try simp only [Act.put, List.setIfInBounds_toArray, List.set_cons_zero, List.set_cons_succ]
  refine wpAnyH_take (i := 1) (oi := { dst := some 7, op := _, type := _, pos := _, after := _, guard := _ }) (v := .agg #[.string (str s.name), .string (str s.parent), .int .i64 s.kind, .bool s.lease, .slice x s.layer.length cc]) rfl (by kernel_rfl) (by kernel_rfl) (by kernel_rfl) (fun _ _ _ h => h) (Or.inl ⟨by rfl, ?_⟩) hHeld ?_
  · rintro w ⟨q0, q1, q2, q3, q4⟩
    go_simp
  try simp only [Act.put, List.setIfInBounds_toArray, List.set_cons_zero, List.set_cons_succ]
  refine wpAnyH_take (i := 3) (oi := { dst := some 9, op := _, type := _, pos := _, after := _, guard := _ }) (v := .agg #[.string (str s.name), .string (str s.parent), .int .i64 s.kind, .bool s.lease, .slice x s.layer.length cc]) rfl (by kernel_rfl) (by kernel_rfl) (by kernel_rfl) (fun _ _ _ h => h) (Or.inl ⟨by rfl, ?_⟩) hHeld ?_
  · rintro w ⟨q0, q1, q2, q3, q4⟩
    go_simp
  try simp only [Act.put, List.setIfInBounds_toArray, List.set_cons_zero, List.set_cons_succ]
  refine wpAnyH_ready (rs := [2, 4]) (by kernel_rfl) (by simp) ?_
  refine AllReadyH.cons rfl (fun K hK => ?_) (AllReadyH.cons rfl (fun K hK => ?_) AllReadyH.nil)
  · go_simp
    refine (withoutSnap_any a c l.length l s x cc w _ (below_next B0.out (Below.refl W0.heap.size W0).drew) HR.out rfl (by omega) HBD.out).mono ?_
    rintro r w4 ⟨av4, cv4, rfl, hL4, hb4⟩
    have B4 := hide (below_next ((Below.refl W0.heap.size W0).drew) hb4)
    have HL4 := hide hL4
    clear hL4 hb4
    go_wp2_with fail
    refine hK.out _ _ (KC.out _ B4.out) (fun hHeld => ?_)
    clear hK K
    try simp only [Act.put, List.setIfInBounds_toArray, List.set_cons_zero, List.set_cons_succ]
    refine wpAnyH_ready (rs := [4]) (by kernel_rfl) (by simp) ?_
    refine AllReadyH.cons rfl (fun K hK => ?_) AllReadyH.nil
    have F5n := hide (Five.new w4 (.string (str s.name)) (.string (str s.parent)) (.int .i64 s.kind) (.bool s.lease) (.slice x s.layer.length cc) 37)
    have B5 := hide (below_next B4.out (below_alloc w4 (.cells #[.string (str s.name), .string (str s.parent), .int .i64 s.kind, .bool s.lease, .slice x s.layer.length cc] 37)))
    have HL : Hid (LN (w.heap.size + 2) w (w4.alloc (.cells #[.string (str s.name), .string (str s.parent), .int .i64 s.kind, .bool s.lease, .slice x s.layer.length cc] 37)) (.slice av4 (offN l s.name).length cv4) (offN l s.name)) := hide ((HL4.out.below (below_alloc w4 _)).mono (by have hd : W0.drew.heap.size = W0.heap.size := rfl; omega))
    go_simp
    refine hK.out _ _ (KC.out _ B5.out) (fun hHeld => ?_)
    clear hK K
    try simp only [Act.put, List.setIfInBounds_toArray, List.set_cons_zero, List.set_cons_succ]
    obtain ⟨rs, g1, g2, g3⟩ := HL.out
    have G1 := hide g1
    have G2 := hide g2
    have G3 := hide g3
    clear g1 g2 g3
    refine wpAnyH_ready (rs := [5]) (by kernel_rfl) (by simp) ?_
    refine AllReadyH.cons (o := { dst := some 11, op := _, type := _, pos := _, after := _, guard := _ }) rfl (fun K hK => ?_) AllReadyH.nil
    refine step_app (by rfl) (.tmp 8) (.tmp 10) 24 (by rfl) (w.heap.size + 2) 37 i1 (.agg #[.string ⟨#[]⟩, .string ⟨#[]⟩, .int .i64 0, .bool false, .slice none 0 0]) 5 72 Tryz.underlying24 ki kz0 kz1 kz2 rfl (by decide) (.slice av4 (offN l s.name).length cv4) (offN l s.name).length (rowN rs) (by rfl) G2.out ⟨w4.heap.size, 0, none⟩ 1 1 (cellsN ⟨s, x, cc⟩) (by rfl) (by rfl) (news_snap F5n.out) (fun v hv => rowN_one [⟨s, x, cc⟩] v (by simpa [rowN] using hv)) ((offN l s.name).length + 1) rfl hm1 hm2 (by have := B5.out.size; omega) ?_
    intro av7 cv7 w7 hown7 hk7
    obtain ⟨c7, x7, b7, hs7, g, rfl, hg7, hso⟩ := HEND.out rs (w4.alloc (.cells #[.string (str s.name), .string (str s.parent), .int .i64 s.kind, .bool s.lease, .slice x s.layer.length cc] 37)) w7 av4 av7 cv4 cv7 G1.out G3.out B5.out G2.out hown7 hk7
    have X7 := hide x7
    have B7 := hide b7
    have HSO := hide hso
    refine hK.out _ _ c7 (fun hHeld => ?_)
    clear hK K hown7 hk7 x7 b7 hso c7 HEND
    simp only [Act.put, List.setIfInBounds_toArray, List.set_cons_zero, List.set_cons_succ]
    refine wpAnyH_take (i := 6) (oi := { dst := some 5, op := _, type := _, pos := _, after := _, guard := _ }) (v := .slice (some ⟨g, 0, none⟩) ((offN l s.name).length + 1) cv7) rfl (by kernel_rfl) (by kernel_rfl) (by kernel_rfl) (fun _ _ _ h => h) (Or.inl ⟨by rfl, ?_⟩) hHeld ?_
    · rintro w ⟨q0, q1, q2, q3, q4⟩
      go_simp
    try simp only [Act.put, List.setIfInBounds_toArray, List.set_cons_zero, List.set_cons_succ]
    refine wpAnyH_done (by kernel_rfl) ?_ _
    go_wp2_with fail
    refine HSO.out.mono ?_
    rintro r w8 ⟨rfl, hri, hk8⟩
    have RI := hide hri
    have B8 := hide (B7.out.trans (hk8.below B7.out.size (fun q hq e => by omega)))
    have X8 := hide (X7.out.kept hk8 (fun e => by omega))
    have hs8 := hk8.size
    clear hri hk8
    go_wp2_with fail
    refine (copiedSnaps_any (some ⟨g, 0, none⟩) cv7 ((offN l s.name).length + 1) (putN l s) w8 RI.out HPL.out.symm (by rw [HPL.out]; omega) HSM.out).mono ?_
    rintro r w9 ⟨av, cv, rfl, hG, hb9⟩
    have G9 := hide hG
    have B9 := hide (below_next B8.out hb9)
    obtain ⟨⟨t0, t1, t2⟩, t3, t4, t5⟩ := X8.out.below hb9
    clear hG hb9
    go_wp2_with fail
    exact bodyPost_ret (v := .agg #[.int .i64 0, .int .i64 0, .slice av (putN l s).length cv]) (by simp [results, Tryz.results68, go_sem, t0, t1, t2]) rfl (ResS.of (B := w8.heap.size) (by omega) (by omega) rfl G9.out B9.out)
  · have F4n : Hid (Five (W0.drew.alloc (.cells #[.string (str s.name), .string (str s.parent), .int .i64 s.kind, .bool s.lease, .slice x s.layer.length cc] 37)) (w.heap.size + 2) (.string (str s.name)) (.string (str s.parent)) (.int .i64 s.kind) (.bool s.lease) (.slice x s.layer.length cc)) := hide (by have h9 := Five.new W0.drew (.string (str s.name)) (.string (str s.parent)) (.int .i64 s.kind) (.bool s.lease) (.slice x s.layer.length cc) 37; rw [show W0.drew.heap.size = w.heap.size + 2 from hsz0] at h9; exact h9)
    have B4 := hide (below_next ((Below.refl W0.heap.size W0).drew) (below_alloc W0.drew (.cells #[.string (str s.name), .string (str s.parent), .int .i64 s.kind, .bool s.lease, .slice x s.layer.length cc] 37)))
    go_simp
    refine hK.out _ _ (KC.out _ B4.out) (fun hHeld => ?_)
    clear hK K
    try simp only [Act.put, List.setIfInBounds_toArray, List.set_cons_zero, List.set_cons_succ]
    refine wpAnyH_ready (rs := [2]) (by kernel_rfl) (by simp) ?_
    refine AllReadyH.cons rfl (fun K hK => ?_) AllReadyH.nil
    go_simp
    refine (withoutSnap_any a c l.length l s x cc w _ (below_next B0.out B4.out) HR.out rfl (by omega) HBD.out).mono ?_
    rintro r w5 ⟨av4, cv4, rfl, hL4, hb5⟩
    have B5 := hide (below_next B4.out hb5)
    have F5n := hide (F4n.out.below hb5)
    have HL := hide (hL4.mono (show w.heap.size + 2 ≤ _ by have hd : W0.drew.heap.size = W0.heap.size := rfl; rw [World.size_alloc]; omega))
    clear hL4 hb5
    go_wp2_with fail
    refine hK.out _ _ (KC.out _ B5.out) (fun hHeld => ?_)
    clear hK K
    try simp only [Act.put, List.setIfInBounds_toArray, List.set_cons_zero, List.set_cons_succ]
    obtain ⟨rs, g1, g2, g3⟩ := HL.out
    have G1 := hide g1
    have G2 := hide g2
    have G3 := hide g3
    clear g1 g2 g3
    refine wpAnyH_ready (rs := [5]) (by kernel_rfl) (by simp) ?_
    refine AllReadyH.cons (o := { dst := some 11, op := _, type := _, pos := _, after := _, guard := _ }) rfl (fun K hK => ?_) AllReadyH.nil
    refine step_app (by rfl) (.tmp 8) (.tmp 10) 24 (by rfl) (w.heap.size + 2) 37 i1 (.agg #[.string ⟨#[]⟩, .string ⟨#[]⟩, .int .i64 0, .bool false, .slice none 0 0]) 5 72 Tryz.underlying24 ki kz0 kz1 kz2 rfl (by decide) (.slice av4 (offN l s.name).length cv4) (offN l s.name).length (rowN rs) (by rfl) G2.out ⟨w.heap.size + 2, 0, none⟩ 1 1 (cellsN ⟨s, x, cc⟩) (by rfl) (by rfl) (news_snap F5n.out) (fun v hv => rowN_one [⟨s, x, cc⟩] v (by simpa [rowN] using hv)) ((offN l s.name).length + 1) rfl hm1 hm2 (by have := B5.out.size; omega) ?_
    intro av7 cv7 w7 hown7 hk7
    obtain ⟨c7, x7, b7, hs7, g, rfl, hg7, hso⟩ := HEND.out rs w5 w7 av4 av7 cv4 cv7 G1.out G3.out B5.out G2.out hown7 hk7
    have X7 := hide x7
    have B7 := hide b7
    have HSO := hide hso
    refine hK.out _ _ c7 (fun hHeld => ?_)
    clear hK K hown7 hk7 x7 b7 hso c7 HEND
    simp only [Act.put, List.setIfInBounds_toArray, List.set_cons_zero, List.set_cons_succ]
    refine wpAnyH_take (i := 6) (oi := { dst := some 5, op := _, type := _, pos := _, after := _, guard := _ }) (v := .slice (some ⟨g, 0, none⟩) ((offN l s.name).length + 1) cv7) rfl (by kernel_rfl) (by kernel_rfl) (by kernel_rfl) (fun _ _ _ h => h) (Or.inl ⟨by rfl, ?_⟩) hHeld ?_
    · rintro w ⟨q0, q1, q2, q3, q4⟩
      go_simp
    try simp only [Act.put, List.setIfInBounds_toArray, List.set_cons_zero, List.set_cons_succ]
    refine wpAnyH_done (by kernel_rfl) ?_ _
    go_wp2_with fail
    refine HSO.out.mono ?_
    rintro r w8 ⟨rfl, hri, hk8⟩
    have RI := hide hri
    have B8 := hide (B7.out.trans (hk8.below B7.out.size (fun q hq e => by omega)))
    have X8 := hide (X7.out.kept hk8 (fun e => by omega))
    have hs8 := hk8.size
    clear hri hk8
    go_wp2_with fail
    refine (copiedSnaps_any (some ⟨g, 0, none⟩) cv7 ((offN l s.name).length + 1) (putN l s) w8 RI.out HPL.out.symm (by rw [HPL.out]; omega) HSM.out).mono ?_
    rintro r w9 ⟨av, cv, rfl, hG, hb9⟩
    have G9 := hide hG
    have B9 := hide (below_next B8.out hb9)
    obtain ⟨⟨t0, t1, t2⟩, t3, t4, t5⟩ := X8.out.below hb9
    clear hG hb9
    go_wp2_with fail
    exact bodyPost_ret (v := .agg #[.int .i64 0, .int .i64 0, .slice av (putN l s).length cv]) (by simp [results, Tryz.results68, go_sem, t0, t1, t2]) rfl (ResS.of (B := w8.heap.size) (by omega) (by omega) rfl G9.out B9.out)
end Go.Proofs.YtolnlfnndnpiiaaGreat

namespace Go.Proofs.YtolnlfnndnpiiaaGreat
open Go.RowKit Go.Maps
set_option linter.unusedVariables false
attribute [local go_sem ↓] Go.wp_at_zero Go.wp_at_succ

theorem small_put {l : List Sn} {s : Sn} (h : SmallS l) (hl : l.length ≤ 1048575) (hs : s.name.length ≤ 1048576 ∧ s.parent.length ≤ 1048576 ∧ s.layer.length ≤ 1048576 ∧ SmallE s.layer) : SmallS (putN l s) := by
  refine ⟨?_, fun e he => ?_⟩
  · rw [putN_len]
    have : (offN l s.name).length ≤ l.length := List.length_filter_le _ _
    omega
  · rcases mem_putN.1 he with rfl | he
    · exact hs
    · exact h.2 e he.1
set_option maxRecDepth 100000 in
set_option maxHeartbeats 3200000 in
theorem growReply_any (a : Option Addr) (c n : Nat) (l : List Sn) (s : Sn) (x : Option Addr) (cc : Nat) (w : World) (h : RdS w a l) (hx : RdE w x s.layer) (hn : n = l.length) (hl : l.length ≤ 1048576) (hne : ∀ y ∈ l, y.name ≠ []) (hs : s.name.length ≤ 1048576) :
    Calls Tryz.prog 92 #[.slice a n c, .agg #[.string (str s.name), .string (str s.parent), .int .i64 s.kind, .bool s.lease, .slice x s.layer.length cc]] w fun r w' => r = .returned (.int .i64 (growR l s)) ∧ Below w.heap.size w w' := by
  subst hn
  obtain ⟨F, hF⟩ : ∃ F : Int, F = growR l s := ⟨_, rfl⟩
  rw [← hF]
  have HF := hide hF
  have HR := hide h
  have HX := hide hx
  have HNE := hide hne
  have B0 := hide (below_alloc w (.cells #[.string (str s.name), .string (str s.parent), .int .i64 s.kind, .bool s.lease, .slice x s.layer.length cc] 37))
  have F5 := hide (Five.new w (.string (str s.name)) (.string (str s.parent)) (.int .i64 s.kind) (.bool s.lease) (.slice x s.layer.length cc) 37)
  clear h hx hne hF
  go_enter Tryz.func92, Tryz.ntmps92
  go_wp2_with fail
  generalize hW0 : w.alloc (.cells #[.string (str s.name), .string (str s.parent), .int .i64 s.kind, .bool s.lease, .slice x s.layer.length cc] 37) = W0 at *
  clear hW0
  refine (isSnapName_any s.name _ hs).mono ?_
  rintro r w1 ⟨rfl, rfl⟩
  obtain ⟨f0, f1, f2, f3, f4⟩ := F5.out
  cases hnm : nmOk s.name
  · have HO := hide (show F = 5 by rw [HF.out]; unfold growR; rw [hnm]; rfl)
    clear hnm
    go_wp2_with fail
    go_ret
    exact ⟨ret_int HO.out.symm, B0.out⟩
  · have HNM := hide (nmOk_ne hnm)
    have HG := hide (show F = if (atS l s.name).isSome then 7 else if standS l s = 0 then (if 10 ≤ l.length then 2 else 0) else standS l s by rw [HF.out]; unfold growR; rw [hnm]; rfl)
    clear hnm
    go_wp2_with fail
    refine (snapOf_any a c l.length l s.name w _ B0.out HR.out rfl hl).mono ?_
    rintro r w2 ⟨⟨e, x1, c1, he, rfl, hx1⟩, hb2⟩
    have HE := hide he
    have B2 := hide (below_next B0.out hb2)
    have F52 := hide (F5.out.below hb2)
    clear hb2 he hx1 f0 f1 f2 f3 f4
    cases ho : atS l s.name with
    | some y =>
      have he : e = y := by have := HE.out; rw [ho] at this; exact this
      subst he
      have HNE2 := hide (HNE.out e (atS_some ho).1)
      have HO := hide (show F = 7 by rw [HG.out, ho]; rfl)
      clear ho
      go_wp2_with fail
      refine (isNone_no e _ _ _ HNE2.out).mono ?_
      rintro r w3 ⟨rfl, hb3⟩
      have B3 := hide (below_next B2.out hb3)
      clear hb3
      go_wp2_with fail
      go_ret
      exact ⟨ret_int HO.out.symm, B3.out⟩
    | none =>
      have he : e = zeroS := by have := HE.out; rw [ho] at this; exact this
      subst he
      have HG2 := hide (show F = if standS l s = 0 then (if 10 ≤ l.length then 2 else 0) else standS l s by rw [HG.out, ho]; rfl)
      clear ho
      go_wp2_with fail
      refine (isNone_yes _ _ _).mono ?_
      rintro r w3 ⟨rfl, hb3⟩
      have B3 := hide (below_next B2.out hb3)
      obtain ⟨f0, f1, f2, f3, f4⟩ := F52.out.below hb3
      clear hb3
      go_wp2_with fail
      refine (standFault_any a c l.length l s x cc w3 (HR.out.below B3.out) (HX.out.below B3.out) rfl hl HNE.out HNM.out).mono ?_
      rintro r w4 ⟨rfl, hb4⟩
      have B4 := hide (below_next B3.out hb4)
      clear hb4
      by_cases hz : standS l s = 0
      · have HG3 := hide (show F = if 10 ≤ l.length then 2 else 0 by rw [HG2.out, if_pos hz])
        rw [hz]
        clear hz
        by_cases hm : 10 ≤ l.length
        · have hm' : (10 : Int) ≤ (l.length : Int) := by omega
          have HO := hide (show F = 2 by rw [HG3.out, if_pos hm])
          clear hm
          go_wp2_with fail
          go_ret
          exact ⟨ret_int HO.out.symm, B4.out⟩
        · have hm' : ¬ (10 : Int) ≤ (l.length : Int) := by omega
          have HO := hide (show F = 0 by rw [HG3.out, if_neg hm])
          clear hm
          go_wp2_with fail
          go_ret
          exact ⟨ret_int HO.out.symm, B4.out⟩
      · have HO := hide (show F = standS l s by rw [HG2.out, if_neg hz])
        have hz2 : (standS l s != 0) = true := by simp; exact hz
        clear hz
        go_wp2_with fail
        go_ret
        exact ⟨ret_int HO.out.symm, B4.out⟩
end Go.Proofs.YtolnlfnndnpiiaaGreat

namespace Go.Proofs.YtolnlfnndnpiiaaGreat
open Go.RowKit Go.Maps
set_option linter.unusedVariables false
attribute [local go_sem ↓] Go.wp_at_zero Go.wp_at_succ

def aft (rep : Int) (l l2 : List Sn) : List Sn := if rep = 0 then l2 else l
set_option maxRecDepth 100000 in
set_option maxHeartbeats 3200000 in
theorem grown_any (a : Option Addr) (c n : Nat) (l : List Sn) (s : Sn) (x : Option Addr) (cc : Nat) (w : World) (h : RdS w a l) (hx : RdE w x s.layer) (hn : n = l.length) (hR : RightS l) (hs : SmallS l) (hss : s.name.length ≤ 1048576 ∧ s.parent.length ≤ 1048576 ∧ s.layer.length ≤ 1048576 ∧ SmallE s.layer) :
    Calls Tryz.prog 53 #[.slice a n c, .agg #[.string (str s.name), .string (str s.parent), .int .i64 s.kind, .bool s.lease, .slice x s.layer.length cc]] w (ResS 0 (growR l s) (aft (growR l s) l (putN l s)) w) := by
  subst hn
  have hl := hR.len
  have HRd := hide h
  have HX := hide hx
  have HNE := hide (show ∀ y ∈ l, y.name ≠ [] from fun y hy => nmOk_ne (hR.own y hy).1)
  have HRI := hide hR.rise
  have HSM := hide hs
  have HSP := hide (small_put hs (by omega) hss)
  have hsn := hss.1
  have BA := hide (below_alloc w (.cells #[.string (str s.name), .string (str s.parent), .int .i64 s.kind, .bool s.lease, .slice x s.layer.length cc] 37))
  have B0 := hide (below_next BA.out (below_alloc _ (.cells #[.int .i64 0, .int .i64 0, .slice none 0 0] 28)))
  have F0 := hide ((Five.new w (.string (str s.name)) (.string (str s.parent)) (.int .i64 s.kind) (.bool s.lease) (.slice x s.layer.length cc) 37).below (below_alloc _ (.cells #[.int .i64 0, .int .i64 0, .slice none 0 0] 28)))
  have X0 := hide (Box3.new (w.alloc (.cells #[.string (str s.name), .string (str s.parent), .int .i64 s.kind, .bool s.lease, .slice x s.layer.length cc] 37)) (.int .i64 0) (.int .i64 0) (.slice none 0 0) 28)
  have HBD := hide (show growR l s = 0 → ∀ e ∈ l, e.name = s.name → e.parent = s.parent from fun h0 e he hn => absurd hn (atS_none.1 (growR_zero.1 h0).2.1 e he))
  clear h hx hR hs hss
  go_enter Tryz.func53, Tryz.ntmps53
  go_wp2_with fail
  simp only [World.size_alloc] at X0
  have hsz0 : ((w.alloc (.cells #[.string (str s.name), .string (str s.parent), .int .i64 s.kind, .bool s.lease, .slice x s.layer.length cc] 37)).alloc (.cells #[.int .i64 0, .int .i64 0, .slice none 0 0] 28)).heap.size = w.heap.size + 2 := by simp
  generalize (w.alloc (.cells #[.string (str s.name), .string (str s.parent), .int .i64 s.kind, .bool s.lease, .slice x s.layer.length cc] 37)).alloc (.cells #[.int .i64 0, .int .i64 0, .slice none 0 0] 28) = W0 at *
  refine (growReply_any a c l.length l s x cc W0 (HRd.out.below B0.out) (HX.out.below B0.out) rfl (by omega) HNE.out hsn).mono ?_
  rintro r w1 ⟨rfl, hb1⟩
  have B1 := hide (below_next B0.out hb1)
  have X1 := hide (X0.out.below hb1)
  obtain ⟨f0, f1, f2, f3, f4⟩ := F0.out.below hb1
  have hs1 := hb1.size
  clear hb1
  by_cases hz : growR l s = 0
  · have HB := hide (HBD.out hz)
    have HA := hide (show aft (growR l s) l (putN l s) = putN l s by unfold aft; rw [if_pos hz])
    have HZ := hide hz
    rw [hz]
    clear hz
    go_wp2_with fail
    refine (withSnap_any a c l.length l s x cc w1 (HRd.out.below B1.out) (HX.out.below B1.out) rfl (by omega) HRI.out HB.out HSP.out).mono ?_
    rintro r w2 ⟨av, cv, rfl, hG, hb2⟩
    have G2 := hide hG
    have B2 := hide (below_next B1.out hb2)
    obtain ⟨⟨t0, t1, t2⟩, t3, t4, t5⟩ := X1.out.below hb2
    clear hG hb2
    go_wp2_with fail
    exact bodyPost_ret (v := .agg #[.int .i64 0, .int .i64 0, .slice av (putN l s).length cv]) (by simp [results, Tryz.results53, go_sem, t0, t1, t2]) rfl (by rw [HA.out, HZ.out]; exact ResS.of (B := w1.heap.size) (by omega) (by omega) rfl G2.out B2.out)
  · have HA := hide (show aft (growR l s) l (putN l s) = l by unfold aft; rw [if_neg hz])
    have hz2 : (growR l s != 0) = true := by simp; exact hz
    clear hz
    go_wp2_with fail
    refine (snapsStay_any a c l.length l (growR l s) w1 (HRd.out.below B1.out) rfl (by omega) HSM.out).mono ?_
    rintro r w2 ⟨av, cv, rfl, hG, hb2⟩
    have G2 := hide hG
    have B2 := hide (below_next B1.out hb2)
    obtain ⟨⟨t0, t1, t2⟩, t3, t4, t5⟩ := X1.out.below hb2
    clear hG hb2
    go_wp2_with fail
    exact bodyPost_ret (v := .agg #[.int .i64 0, .int .i64 (growR l s), .slice av l.length cv]) (by simp [results, Tryz.results53, go_sem, t0, t1, t2]) rfl (by rw [HA.out]; exact ResS.of (B := w1.heap.size) (by omega) (by omega) rfl G2.out B2.out)
def Turns (W0 : World) (fn : FuncId) (cap : Array Value) (t : Sn) (P : Sn → Int → Prop) : Prop :=
  (∀ args w, (callFunc fn args).run Tryz.prog w = .ok (.enter fn args) w) ∧ ∀ (x : Option Addr) (c : Nat) (w : World), Below W0.heap.size W0 w → RdE w x t.layer →
    Calls Tryz.prog fn (#[.agg #[.string (str t.name), .string (str t.parent), .int .i64 t.kind, .bool t.lease, .slice x t.layer.length c]] ++ cap) w fun r w' => ∃ m rep x2 c2, P m rep ∧ r = .returned (.tuple #[.agg #[.string (str m.name), .string (str m.parent), .int .i64 m.kind, .bool m.lease, .slice x2 m.layer.length c2], .int .i64 rep]) ∧ RdE w' x2 m.layer ∧ Below w.heap.size w w'
set_option maxRecDepth 100000 in
set_option maxHeartbeats 3200000 in
theorem turned_none (a : Option Addr) (c n : Nat) (l : List Sn) (nm : Bs) (fv : Value) (w : World) (h : RdS w a l) (hn : n = l.length) (hl : l.length ≤ 1048576) (hs : SmallS l) (ht : atS l nm = none) :
    Calls Tryz.prog 28 #[.slice a n c, .string (str nm), fv] w (ResS 0 4 l w) := by
  subst hn
  have HRd := hide h
  have HSM := hide hs
  have B0 := hide (below_alloc w (.cells #[.int .i64 0, .int .i64 0, .slice none 0 0] 28))
  have X0 := hide (Box3.new w (.int .i64 0) (.int .i64 0) (.slice none 0 0) 28)
  have HT := hide ht
  clear h hs ht
  go_enter Tryz.func28, Tryz.ntmps28
  go_wp2_with fail
  have hsz0 : (w.alloc (.cells #[.int .i64 0, .int .i64 0, .slice none 0 0] 28)).heap.size = w.heap.size + 1 := by simp
  generalize w.alloc (.cells #[.int .i64 0, .int .i64 0, .slice none 0 0] 28) = W0 at *
  refine (snapOf_any a c l.length l nm w W0 B0.out HRd.out rfl hl).mono ?_
  rintro r w1 ⟨⟨e, x1, c1, he, rfl, hx1⟩, hb1⟩
  rw [HT.out] at he
  have he2 : e = zeroS := he
  subst he2
  have B1 := hide (below_next B0.out hb1)
  have X1 := hide ((X0.out.below hb1).below (below_alloc w1 (.cells #[.string (str zeroS.name), .string (str zeroS.parent), .int .i64 zeroS.kind, .bool zeroS.lease, .slice x1 zeroS.layer.length c1] 37)))
  have B2 := hide (below_next B1.out (below_alloc w1 (.cells #[.string (str zeroS.name), .string (str zeroS.parent), .int .i64 zeroS.kind, .bool zeroS.lease, .slice x1 zeroS.layer.length c1] 37)))
  have hs1 := hb1.size
  clear hb1 he hx1
  go_wp2_with fail
  have hsz2 : (w1.alloc (.cells #[.string (str zeroS.name), .string (str zeroS.parent), .int .i64 zeroS.kind, .bool zeroS.lease, .slice x1 zeroS.layer.length c1] 37)).heap.size = w1.heap.size + 1 := by simp
  generalize w1.alloc (.cells #[.string (str zeroS.name), .string (str zeroS.parent), .int .i64 zeroS.kind, .bool zeroS.lease, .slice x1 zeroS.layer.length c1] 37) = W2 at *
  refine (isNone_yes _ _ _).mono ?_
  rintro r w3 ⟨rfl, hb3⟩
  have B3 := hide (below_next B2.out hb3)
  have X3 := hide (X1.out.below hb3)
  have hs3 := hb3.size
  clear hb3
  go_wp2_with fail
  refine (snapsStay_any a c l.length l 4 w3 (HRd.out.below B3.out) rfl hl HSM.out).mono ?_
  rintro r w4 ⟨av, cv, rfl, hG, hb4⟩
  have G4 := hide hG
  have B4 := hide (below_next B3.out hb4)
  obtain ⟨⟨t0, t1, t2⟩, t3, t4, t5⟩ := X3.out.below hb4
  clear hG hb4
  go_wp2_with fail
  exact bodyPost_ret (v := .agg #[.int .i64 0, .int .i64 4, .slice av l.length cv]) (by simp [results, Tryz.results28, go_sem, t0, t1, t2]) rfl (ResS.of (B := w3.heap.size) (by omega) (Nat.le_refl _) rfl G4.out B4.out)
set_option maxRecDepth 100000 in
set_option maxHeartbeats 6400000 in
theorem turned_some (a : Option Addr) (c n : Nat) (l : List Sn) (nm : Bs) (fn : FuncId) (cap : Array Value) (t : Sn) (P : Sn → Int → Prop) (w : World) (h : RdS w a l) (hn : n = l.length) (hR : RightS l) (hs : SmallS l) (ht : atS l nm = some t) (hT : Turns w fn cap t P)
    (hP : ∀ m, P m 0 → m.name = t.name ∧ m.parent = t.parent ∧ SmallS (putN l m)) :
    Calls Tryz.prog 28 #[.slice a n c, .string (str nm), .func (.func fn) #[] cap] w fun r w' => ∃ m rep, P m rep ∧ ResS 0 rep (aft rep l (putN l m)) w r w' := by
  subst hn
  have hl := hR.len
  have eg := hT.1
  have HTU := hide hT
  have HRd := hide h
  have HSM := hide hs
  have HRI := hide hR.rise
  have HPP := hide hP
  have HAT := hide (show ∀ e ∈ l, e.name = t.name → e.parent = t.parent from fun e he hn => by
    have h1 := atS_mem hR.rise he
    have h2 := atS_mem hR.rise (atS_some ht).1
    rw [hn, h2] at h1
    cases h1; rfl)
  have HNM := hide (nmOk_ne (hR.own t (atS_some ht).1).1)
  have B0 := hide (below_alloc w (.cells #[.int .i64 0, .int .i64 0, .slice none 0 0] 28))
  have X0 := hide (Box3.new w (.int .i64 0) (.int .i64 0) (.slice none 0 0) 28)
  have HT := hide ht
  clear h hs ht hT hP hR
  go_enter Tryz.func28, Tryz.ntmps28
  go_wp2_with fail
  have hsz0 : (w.alloc (.cells #[.int .i64 0, .int .i64 0, .slice none 0 0] 28)).heap.size = w.heap.size + 1 := by simp
  generalize w.alloc (.cells #[.int .i64 0, .int .i64 0, .slice none 0 0] 28) = W0 at *
  refine (snapOf_any a c l.length l nm w W0 B0.out HRd.out rfl (by omega)).mono ?_
  rintro r w1 ⟨⟨e, x1, c1, he, rfl, hx1⟩, hb1⟩
  rw [HT.out] at he
  have he2 : e = t := he
  subst he2
  have HX1 := hide hx1
  have B1 := hide (below_next B0.out hb1)
  have X1 := hide ((X0.out.below hb1).below (below_alloc w1 (.cells #[.string (str e.name), .string (str e.parent), .int .i64 e.kind, .bool e.lease, .slice x1 e.layer.length c1] 37)))
  have F1 := hide (Five.new w1 (.string (str e.name)) (.string (str e.parent)) (.int .i64 e.kind) (.bool e.lease) (.slice x1 e.layer.length c1) 37)
  have B2 := hide (below_next B1.out (below_alloc w1 (.cells #[.string (str e.name), .string (str e.parent), .int .i64 e.kind, .bool e.lease, .slice x1 e.layer.length c1] 37)))
  have hs1 := hb1.size
  clear hb1 he hx1
  go_wp2_with fail
  have hsz2 : (w1.alloc (.cells #[.string (str e.name), .string (str e.parent), .int .i64 e.kind, .bool e.lease, .slice x1 e.layer.length c1] 37)).heap.size = w1.heap.size + 1 := by simp
  generalize w1.alloc (.cells #[.string (str e.name), .string (str e.parent), .int .i64 e.kind, .bool e.lease, .slice x1 e.layer.length c1] 37) = W2 at *
  refine (isNone_no e _ _ _ HNM.out).mono ?_
  rintro r w3 ⟨rfl, hb3⟩
  have B3 := hide (below_next B2.out hb3)
  have X3 := hide (X1.out.below hb3)
  obtain ⟨f0, f1, f2, f3, f4⟩ := F1.out.below hb3
  have hs3 := hb3.size
  clear hb3
  go_wp2_with fail
  refine (HTU.out.2 x1 c1 w3 B3.out (HX1.out.below B3.out)).mono ?_
  rintro r w4 ⟨m, rep, x2, c2, hp, rfl, hx2, hb4⟩
  have HPM := hide hp
  have B4 := hide (below_next B3.out (below_next hb4 (below_alloc w4 (.cells #[.string (str m.name), .string (str m.parent), .int .i64 m.kind, .bool m.lease, .slice x2 m.layer.length c2] 37))))
  have X4 := hide (X3.out.below (below_next hb4 (below_alloc w4 (.cells #[.string (str m.name), .string (str m.parent), .int .i64 m.kind, .bool m.lease, .slice x2 m.layer.length c2] 37))))
  have F4 := hide (Five.new w4 (.string (str m.name)) (.string (str m.parent)) (.int .i64 m.kind) (.bool m.lease) (.slice x2 m.layer.length c2) 37)
  have HX2 := hide (hx2.below (below_alloc w4 (.cells #[.string (str m.name), .string (str m.parent), .int .i64 m.kind, .bool m.lease, .slice x2 m.layer.length c2] 37)))
  have hs4 := hb4.size
  clear hp hx2 hb4 f0 f1 f2 f3 f4 eg
  have hsz4 : (w4.alloc (.cells #[.string (str m.name), .string (str m.parent), .int .i64 m.kind, .bool m.lease, .slice x2 m.layer.length c2] 37)).heap.size = w4.heap.size + 1 := by simp
  by_cases hz : rep = 0
  · subst hz
    obtain ⟨p1, p2, p3⟩ := HPP.out m HPM.out
    have HP1 := hide (show ∀ e ∈ l, e.name = m.name → e.parent = m.parent from fun y hy hn => by rw [p2]; exact HAT.out y hy (hn.trans p1))
    have HP3 := hide p3
    clear p1 p2 p3
    go_wp2_with fail
    generalize w4.alloc (.cells #[.string (str m.name), .string (str m.parent), .int .i64 m.kind, .bool m.lease, .slice x2 m.layer.length c2] 37) = W5 at *
    refine (withSnap_any a c l.length l m x2 c2 W5 (HRd.out.below B4.out) HX2.out rfl (by omega) HRI.out HP1.out HP3.out).mono ?_
    rintro r w6 ⟨av, cv, rfl, hG, hb6⟩
    have G6 := hide hG
    have B6 := hide (below_next B4.out hb6)
    obtain ⟨⟨t0, t1, t2⟩, t3, t4, t5⟩ := X4.out.below hb6
    clear hG hb6
    go_wp2_with fail
    exact bodyPost_ret (v := .agg #[.int .i64 0, .int .i64 0, .slice av (putN l m).length cv]) (by simp [results, Tryz.results28, go_sem, t0, t1, t2]) rfl ⟨m, 0, HPM.out, ResS.of (B := W5.heap.size) (by omega) (Nat.le_refl _) rfl G6.out B6.out⟩
  · have hz2 : (rep != 0) = true := by simp; exact hz
    have HA := hide (show aft rep l (putN l m) = l by unfold aft; rw [if_neg hz])
    clear hz
    go_wp2_with fail
    generalize w4.alloc (.cells #[.string (str m.name), .string (str m.parent), .int .i64 m.kind, .bool m.lease, .slice x2 m.layer.length c2] 37) = W5 at *
    refine (snapsStay_any a c l.length l rep W5 (HRd.out.below B4.out) rfl (by omega) HSM.out).mono ?_
    rintro r w6 ⟨av, cv, rfl, hG, hb6⟩
    have G6 := hide hG
    have B6 := hide (below_next B4.out hb6)
    obtain ⟨⟨t0, t1, t2⟩, t3, t4, t5⟩ := X4.out.below hb6
    clear hG hb6
    go_wp2_with fail
    exact bodyPost_ret (v := .agg #[.int .i64 0, .int .i64 rep, .slice av l.length cv]) (by simp [results, Tryz.results28, go_sem, t0, t1, t2]) rfl ⟨m, rep, HPM.out, by rw [HA.out]; exact ResS.of (B := W5.heap.size) (by omega) (Nat.le_refl _) rfl G6.out B6.out⟩
end Go.Proofs.YtolnlfnndnpiiaaGreat

