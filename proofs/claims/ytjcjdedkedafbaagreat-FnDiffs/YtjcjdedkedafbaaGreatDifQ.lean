/-
  The program's directories that have something below them; what leads from one tree to another one, in order.
-/
import Derived.Test.YtjcjdedkedafbaaGreatDifP
namespace Go.Proofs.YtjcjdedkedafbaaGreat
open Go.RowKit Go.Maps Go.Sort
set_option linter.unusedVariables false
attribute [local go_sem ↓] Go.wp_at_zero Go.wp_at_succ

/-- Has a directory one of these below it, and is it none of them? -/
def homesF (D : List En) (e : En) : Bool := (D.any fun y => isBelow y.path e.path) && !(atP D e.path)
theorem homesE_eq (b D : List En) : homesE b D = b.filter (homesF D) := rfl
set_option maxRecDepth 100000 in
set_option maxHeartbeats 3200000 in
theorem homesLit_any (b : Nat) (a : Option Addr) (c : Nat) (D : List En) (W0 : World) (h : RdI W0 a D) (hl : D.length ≤ 1048576) (hs : SmallE D) (e : En) (x : Option Addr) (cc : Nat) (w : World) (hw : Below W0.heap.size W0 w) (hc : w.cell? ⟨b, 0, none⟩ = some (.slice a D.length c)) :
    Calls Tryz.prog 87 #[.agg #[.int .i64 e.size, .slice x e.chunks.length cc, .string (str e.path), .int .i64 e.kind], .pointer (some ⟨b, 0, none⟩)] w fun r w' => r = .returned (.bool (homesF D e)) ∧ Below w.heap.size w w' := by
  have B0 := hide (below_alloc w (.cells #[.int .i64 e.size, .slice x e.chunks.length cc, .string (str e.path), .int .i64 e.kind] 61))
  have F0 := hide (Four.new w (.int .i64 e.size) (.slice x e.chunks.length cc) (.string (str e.path)) (.int .i64 e.kind) 61)
  have hb := World.block_lt_of_cell? w ⟨b, 0, none⟩ hc
  have HC := hide ((B0.out.cell (p := ⟨b, 0, none⟩) hb).trans hc)
  have hb1 : b < (w.alloc (.cells #[.int .i64 e.size, .slice x e.chunks.length cc, .string (str e.path), .int .i64 e.kind] 61)).heap.size := Nat.lt_of_lt_of_le hb B0.out.size
  have HR := hide (h.below (below_next hw B0.out))
  have HS := hide hs
  have HATD := hide (show (D.any fun y => decide (y.path = e.path)) = atP D e.path from rfl)
  have HZ := hide (show homesF D e = ((D.any fun y => isBelow y.path e.path) && !(atP D e.path)) from rfl)
  generalize homesF D e = Z at *
  clear h hs hw hc
  go_enter Tryz.func87, Tryz.ntmps87
  go_wp2_with fail
  generalize w.alloc (.cells #[.int .i64 e.size, .slice x e.chunks.length cc, .string (str e.path), .int .i64 e.kind] 61) = W1 at *
  have KC : Hid (∀ w' : World, Below W1.heap.size W1 w' → w'.cell? ⟨b, 0, none⟩ = some (.slice a D.length c) ∧ w'.cell? ⟨w.heap.size, 2, none⟩ = some (.string (str e.path))) := hide (fun w' hb' => ⟨(hb'.cell (p := ⟨b, 0, none⟩) hb1).trans HC.out, (F0.out.below hb').2.2.1⟩)
  cases hany : D.any fun y => isBelow y.path e.path
  · rw [hany, Bool.false_and] at HZ
    refine wp_region_held_drew (S := fun w' => w'.cell? ⟨b, 0, none⟩ = some (.slice a D.length c) ∧ w'.cell? ⟨w.heap.size, 2, none⟩ = some (.string (str e.path))) (by kernel_rfl) (KC.out _ (Below.refl _ _).drew) (fun hHeld => ?_)
    change wpAnyH _ _ _ _ _ _ (Array.replicate _ false) _ _
    refine wpAnyH_take (i := 0) (oi := { dst := some 4, op := _, type := _, pos := _, after := _, guard := _ }) (v := .slice a D.length c) rfl (by kernel_rfl) (by kernel_rfl) (by kernel_rfl) (fun _ _ _ h => h) (Or.inl ⟨by rfl, ?_⟩) hHeld ?_
    · intro w hSw
      (try obtain ⟨q0, q1⟩ := hSw)
      go_simp
    try simp only [Act.put, List.setIfInBounds_toArray, List.set_cons_zero, List.set_cons_succ]
    refine wpAnyH_take (i := 1) (oi := { dst := some 5, op := _, type := _, pos := _, after := _, guard := _ }) (v := .pointer (some ⟨w.heap.size, 2, none⟩)) rfl (by kernel_rfl) (by kernel_rfl) (by kernel_rfl) (fun _ _ _ h => h) (Or.inl ⟨by rfl, ?_⟩) hHeld ?_
    · intro w hSw
      (try obtain ⟨q0, q1⟩ := hSw)
      go_simp
    try simp only [Act.put, List.setIfInBounds_toArray, List.set_cons_zero, List.set_cons_succ]
    refine wpAnyH_take (i := 2) (oi := { dst := some 6, op := _, type := _, pos := _, after := _, guard := _ }) (v := .string (str e.path)) rfl (by kernel_rfl) (by kernel_rfl) (by kernel_rfl) (fun _ _ _ h => h) (Or.inl ⟨by rfl, ?_⟩) hHeld ?_
    · intro w hSw
      (try obtain ⟨q0, q1⟩ := hSw)
      go_simp
    try simp only [Act.put, List.setIfInBounds_toArray, List.set_cons_zero, List.set_cons_succ]
    refine wpAnyH_ready (rs := [3]) (by kernel_rfl) (by simp) ?_
    refine AllReadyH.cons rfl (fun K hK => ?_) AllReadyH.nil
    go_simp
    refine (isBelow_any e.path _).mono ?_
    rintro r w3 ⟨rfl, hb3, hA⟩
    have HA := hide hA
    have B3 := hide (below_next ((Below.refl W1.heap.size W1).drew) hb3)
    clear hA hb3
    go_wp2_with fail
    refine hK.out _ _ (KC.out _ B3.out) (fun hHeld => ?_)
    clear hK K
    refine wpAnyH_ready (rs := [4]) (by kernel_rfl) (by simp) ?_
    refine AllReadyH.cons rfl (fun K hK => ?_) AllReadyH.nil
    go_simp
    refine (hasI_any a c D.length D _ _ _ _ (HR.out.below B3.out) rfl hl HS.out HA.out).mono ?_
    rw [hany]
    rintro r w4 ⟨rfl, hb4⟩
    have B4 := hide (below_next B3.out hb4)
    clear hb4
    go_wp2_with fail
    refine hK.out _ _ (KC.out _ B4.out) (fun hHeld => ?_)
    clear hK K
    try simp only [Act.put, List.setIfInBounds_toArray, List.set_cons_zero, List.set_cons_succ]
    refine wpAnyH_take (i := 5) (oi := { dst := some 9, op := _, type := _, pos := _, after := _, guard := _ }) (v := .bool false) rfl (by kernel_rfl) (by kernel_rfl) (by kernel_rfl) (fun _ _ _ h => h) (Or.inl ⟨by rfl, ?_⟩) hHeld ?_
    · intro w hSw
      (try obtain ⟨q0, q1⟩ := hSw)
      go_simp
    try simp only [Act.put, List.setIfInBounds_toArray, List.set_cons_zero, List.set_cons_succ]
    refine wpAnyH_take (i := 6) (oi := { dst := some 10, op := _, type := _, pos := _, after := _, guard := _ }) (v := undef) rfl (by kernel_rfl) (by kernel_rfl) (by kernel_rfl) (fun _ _ _ h => h) (Or.inr ⟨by rfl, rfl⟩) hHeld ?_
    try simp only [Act.put, List.setIfInBounds_toArray, List.set_cons_zero, List.set_cons_succ]
    refine wpAnyH_take (i := 7) (oi := { dst := some 11, op := _, type := _, pos := _, after := _, guard := _ }) (v := undef) rfl (by kernel_rfl) (by kernel_rfl) (by kernel_rfl) (fun _ _ _ h => h) (Or.inr ⟨by rfl, rfl⟩) hHeld ?_
    try simp only [Act.put, List.setIfInBounds_toArray, List.set_cons_zero, List.set_cons_succ]
    refine wpAnyH_take (i := 8) (oi := { dst := some 12, op := _, type := _, pos := _, after := _, guard := _ }) (v := undef) rfl (by kernel_rfl) (by kernel_rfl) (by kernel_rfl) (fun _ _ _ h => h) (Or.inr ⟨by rfl, rfl⟩) hHeld ?_
    try simp only [Act.put, List.setIfInBounds_toArray, List.set_cons_zero, List.set_cons_succ]
    refine wpAnyH_take (i := 9) (oi := { dst := some 13, op := _, type := _, pos := _, after := _, guard := _ }) (v := undef) rfl (by kernel_rfl) (by kernel_rfl) (by kernel_rfl) (fun _ _ _ h => h) (Or.inr ⟨by rfl, rfl⟩) hHeld ?_
    try simp only [Act.put, List.setIfInBounds_toArray, List.set_cons_zero, List.set_cons_succ]
    refine wpAnyH_take (i := 10) (oi := { dst := some 14, op := _, type := _, pos := _, after := _, guard := _ }) (v := undef) rfl (by kernel_rfl) (by kernel_rfl) (by kernel_rfl) (fun _ _ _ h => h) (Or.inr ⟨by rfl, rfl⟩) hHeld ?_
    try simp only [Act.put, List.setIfInBounds_toArray, List.set_cons_zero, List.set_cons_succ]
    refine wpAnyH_take (i := 11) (oi := { dst := some 15, op := _, type := _, pos := _, after := _, guard := _ }) (v := undef) rfl (by kernel_rfl) (by kernel_rfl) (by kernel_rfl) (fun _ _ _ h => h) (Or.inr ⟨by rfl, rfl⟩) hHeld ?_
    try simp only [Act.put, List.setIfInBounds_toArray, List.set_cons_zero, List.set_cons_succ]
    refine wpAnyH_take (i := 12) (oi := { dst := some 16, op := _, type := _, pos := _, after := _, guard := _ }) (v := .bool false) rfl (by kernel_rfl) (by kernel_rfl) (by kernel_rfl) (fun _ _ _ h => h) (Or.inl ⟨by rfl, ?_⟩) hHeld ?_
    · intro w hSw
      (try obtain ⟨q0, q1⟩ := hSw)
      go_simp
    try simp only [Act.put, List.setIfInBounds_toArray, List.set_cons_zero, List.set_cons_succ]
    refine wpAnyH_take (i := 13) (oi := { dst := some 3, op := _, type := _, pos := _, after := _, guard := _ }) (v := .bool false) rfl (by kernel_rfl) (by kernel_rfl) (by kernel_rfl) (fun _ _ _ h => h) (Or.inl ⟨by rfl, ?_⟩) hHeld ?_
    · intro w hSw
      (try obtain ⟨q0, q1⟩ := hSw)
      go_simp
    try simp only [Act.put, List.setIfInBounds_toArray, List.set_cons_zero, List.set_cons_succ]
    refine wpAnyH_done (by kernel_rfl) ?_ _
    go_wp2_with fail
    go_ret
    exact ⟨ret_bool HZ.out.symm, below_next B0.out B4.out⟩
  · rw [hany, Bool.true_and] at HZ
    obtain ⟨q0, q1⟩ := KC.out W1 (Below.refl _ _)
    go_region_held3 (fun w' => w'.cell? ⟨b, 0, none⟩ = some (.slice a D.length c) ∧ w'.cell? ⟨w.heap.size, 2, none⟩ = some (.string (str e.path))) (first | exact KC.out _ BB4.out | exact KC.out _ BB3.out | exact KC.out _ BB2.out | exact KC.out _ BB1.out | go_keep)
      ((first
        | (go_at_call 88; refine (isBelow_any e.path _).mono ?_; rintro r w1 ⟨rfl, hb1, hA⟩; have HA := hide hA; have BB1 := hide ((Below.refl W1.heap.size W1).drew.trans hb1); clear hb1 hA)
        | (go_at_call 50; refine (hasI_any a c D.length D _ _ _ _ (HR.out.below BB3.out) rfl hl HS.out HA3.out).mono ?_; rw [HATD.out]; rintro r w4 ⟨rfl, hb4⟩; have BB4 := hide (below_next BB3.out hb4); clear hb4)
        | (go_at_call 50; refine (hasI_any a c D.length D _ _ _ _ (HR.out.below BB1.out) rfl hl HS.out HA.out).mono ?_; rw [hany]; rintro r w2 ⟨rfl, hb2⟩; have BB2 := hide (below_next BB1.out hb2); clear hb2)
        | (go_at_call 85; refine (isAt_any e.path _).mono ?_; rintro r w3 ⟨rfl, hb3, hA3⟩; have HA3 := hide hA3; have BB3 := hide (below_next BB2.out hb3); clear hb3 hA3)))
    go_wp2_with fail
    go_ret
    exact ⟨ret_bool HZ.out.symm, below_next B0.out BB4.out⟩
set_option maxRecDepth 100000 in
set_option maxHeartbeats 800000 in
theorem homesOf_any (a : Option Addr) (c n : Nat) (es : List En) (b : Option Addr) (d m : Nat) (D : List En) (w : World) (h : RdI w a es) (hn : n = es.length) (hl : es.length ≤ 1048576) (hs : SmallE es) (h2 : RdI w b D) (hm : m = D.length) (hl2 : D.length ≤ 1048576) (hs2 : SmallE D) :
    Calls Tryz.prog 56 #[.slice a n c, .slice b m d] w fun r w' => ∃ av cv w1, r = .returned (.slice av (homesE es D).length cv) ∧ LI w1 w' (.slice av (homesE es D).length cv) (homesE es D) ∧ Below w.heap.size w w1 ∧ Below w1.heap.size w1 w' := by
  have hmf : ∀ (fn : Fn) (first cap : Array Value) (w : World), (Instr.makeFunc fn first cap).run Tryz.prog w = .ok (.func fn first cap) w := fun _ _ _ _ => rfl
  subst hn hm
  have B0 := hide (below_alloc w (.cells #[.slice b D.length d] 47))
  have HA : Hid (Asks (w.alloc (.cells #[.slice b D.length d] 47)) 87 #[.pointer (some ⟨w.heap.size, 0, none⟩)] (homesF D)) := hide ⟨enters_of Tryz.func87 (by kernel_rfl) rfl, fun e x cc w' _ _ _ hb =>
    homesLit_any w.heap.size b d D w h2 hl2 hs2 e x cc w' (below_next B0.out hb) ((hb.cell (p := ⟨w.heap.size, 0, none⟩) (by simp)).trans (by simp))⟩
  have HC := hide (those_any a c es.length es _ _ (homesF D) _ (h.below B0.out) rfl hl hs HA.out)
  rw [← homesE_eq] at HC
  generalize homesE es D = G at *
  clear h h2 hs hs2 HA
  go_enter Tryz.func56, Tryz.ntmps56
  go_wp2_with fail
  generalize w.alloc (.cells #[.slice b D.length d] 47) = W0 at *
  refine HC.out.mono ?_
  rintro r w1 ⟨av, cv, rfl, hL, hb1⟩
  have HL := hide hL
  have B1 := hide hb1
  clear hL hb1 HC
  go_wp2_with fail
  go_ret
  exact ⟨av, cv, W0, rfl, HL.out, B0.out, B1.out⟩
end Go.Proofs.YtjcjdedkedafbaaGreat
