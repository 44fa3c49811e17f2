/-
  The program's readers: a cursor's next, readDigest, mustTell; each returns or panics.
-/
import Derived.Test.YtcknabinmbknaaaGreatDoorJ2
namespace Go.Proofs.YtcknabinmbknaaaGreatDoor
open Go.RowKit
set_option linter.unusedVariables false
set_option maxRecDepth 100000

theorem cut_one {m : UInt8} {l a : Bs} (h : cutC m l = [a]) : l = a ∧ m ∉ l := by
  have h1 := joinC_cut m l
  rw [h] at h1
  have h2 := cutC_no (m := m) l a (by rw [h]; simp)
  have e : a = l := h1
  exact ⟨e.symm, e ▸ h2⟩
theorem cut_more {m : UInt8} {l a : Bs} {r : List Bs} (h : cutC m l = a :: r) (hr : r ≠ []) : l = a ++ m :: joinC m r ∧ m ∉ a ∧ cutC m (joinC m r) = r := by
  have h1 := joinC_cut m l
  rw [h, joinC_two m a hr] at h1
  exact ⟨h1.symm, cutC_no (m := m) l a (by rw [h]; simp), cut_joinC hr (fun p hp => cutC_no (m := m) l p (by rw [h]; simp [hp]))⟩

theorem boxTwo {w : World} {B : Nat} {u v : Value} (h : Box w B u v) (u' v' : Value) : Box ((w.setCell ⟨B, 0, none⟩ u').setCell ⟨B, 1, none⟩ v') B u' v' := by
  obtain ⟨⟨m0, m1⟩, m2, m3⟩ := h
  refine ⟨⟨?_, ?_⟩, ?_, ?_⟩
  · rw [cell_set_other (by simp)]; exact cell_set_same m0
  · exact cell_set_same (u := v) (by rw [cell_set_other (by simp)]; exact m1)
  · rw [World.frozen?_setCell, World.frozen?_setCell]; exact m2
  · rw [World.frozen?_setCell, World.frozen?_setCell]; exact m3
theorem keptTwo (w : World) (b n : Nat) (u v : Value) : Kept (fun x => x = b) w (((w.drewN n).setCell ⟨b, 0, none⟩ u).setCell ⟨b, 1, none⟩ v) :=
  Kept.setCell (p := ⟨b, 1, none⟩) (Kept.setCell (p := ⟨b, 0, none⟩) (S := fun x => x = b) (⟨rfl, rfl, rfl, Nat.le_refl _, fun _ _ _ => rfl⟩ : Kept (fun x => x = b) w (w.drewN n)) (fun _ => rfl) u) (fun _ => rfl) v
theorem strNo {a b : Bs} (h : a ≠ b) : ((str a).toList == (str b).toList) = false := by
  rw [ByteArray.toList_eq, ByteArray.toList_eq, str_data, str_data, beq_eq_false_iff_ne]; exact h

/-- The panic that all readers leave by. -/
abbrev Dies (u : TypeId) (vp : Value) : Ending := .panicked [{ v := .iface u vp, recovered := false }]
set_option maxHeartbeats 800000 in
theorem next_no (b : Nat) (l : Bs) (mk : ByteArray) (u : TypeId) (vp : Value) (w : World) (hx : Box w b (.string (str l)) (.bool false)) (hg : w.cell? ⟨0, 0, none⟩ = some (.iface u vp)) :
    Calls Tryz.prog 60 #[.pointer (some ⟨b, 0, none⟩), .string mk] w fun r w' => r = Dies u vp ∧ w' = w := by
  obtain ⟨⟨t0, t1⟩, t2, t3⟩ := hx
  go_enter Tryz.func60, Tryz.ntmps60
  go_wp2_with fail
  exact ⟨rfl, rfl, rfl⟩
set_option maxHeartbeats 800000 in
theorem next_yes (m : UInt8) (b : Nat) (l a : Bs) (r : List Bs) (w : World) (hx : Box w b (.string (str l)) (.bool true)) (hc : cutC m l = a :: r) (hl : l.length ≤ 2097152) :
    Calls Tryz.prog 60 #[.pointer (some ⟨b, 0, none⟩), .string ⟨#[m]⟩] w fun e w' => e = .returned (.string (str a)) ∧ Box w' b (.string (str (joinC m r))) (.bool (decide (r ≠ []))) ∧ Kept (fun x => x = b) w w' ∧ w'.heap.size = w.heap.size := by
  have HX := hide hx
  obtain ⟨⟨t0, t1⟩, t2, t3⟩ := hx
  by_cases hr : r = []
  · subst hr
    obtain ⟨hla, hm⟩ := cut_one hc
    subst hla
    have HM := hide hm
    clear hc hm
    go_enter Tryz.func60, Tryz.ntmps60
    go_wp2_with fail
    refine (cutStr_miss m l _ HM.out).mono ?_
    rintro e w1 ⟨rfl, n, rfl⟩
    go_wp2_with fail
    go_ret
    exact ⟨rfl, boxTwo (w := w.drewN n) HX.out _ _, keptTwo w b n _ _, by simp [World.setCell]⟩
  · obtain ⟨hla, hm, -⟩ := cut_more hc hr
    have hal : a.length ≤ 9223372036854775806 := by rw [hla] at hl; simp at hl; omega
    rw [hla] at HX t0
    have HM := hide hm
    have hd : decide (r ≠ []) = true := by simp [hr]
    clear hc hm hla hl hr
    generalize joinC m r = R at *
    go_enter Tryz.func60, Tryz.ntmps60
    go_wp2_with fail
    refine (cutStr_hit m a R _ HM.out hal).mono ?_
    rintro e w1 ⟨rfl, n, rfl⟩
    go_wp2_with fail
    go_ret
    exact ⟨rfl, by rw [hd]; exact boxTwo (w := w.drewN n) HX.out _ _, keptTwo w b n _ _, by simp [World.setCell]⟩

theorem hexW_yes {l : Bs} {d : Int} (h : hexW l = some d) : pvCode (str l) = 0 ∧ pvValue (str l) = d := by
  unfold hexW at h
  unfold pvCode pvValue
  rw [str_size, str_data]
  by_cases h8 : l.length = 8
  · rw [if_pos h8] at h
    simp [h8, h]
  · rw [if_neg h8] at h; cases h
theorem hexW_no {l : Bs} (h : hexW l = none) : pvCode (str l) = 5 := by
  unfold hexW at h
  unfold pvCode
  rw [str_size, str_data]
  by_cases h8 : l.length = 8
  · rw [if_pos h8] at h
    simp [h]
  · simp [h8]
set_option maxHeartbeats 800000 in
theorem readDigest_yes (l : Bs) (d : Int) (w : World) (h : hexW l = some d) : Calls Tryz.prog 80 #[.string (str l)] w fun r w' => r = .returned (.int .i64 d) ∧ Below w.heap.size w w' := by
  have HC := hide (hexW_yes h)
  clear h
  go_enter Tryz.func80, Tryz.ntmps80
  go_wp2_with fail
  refine (implParseHex_any (str l) w).mono ?_
  rw [HC.out.1, HC.out.2]
  rintro r w1 ⟨rfl, hb1⟩
  have B1 := hide (below_next hb1 (below_alloc w1 (.cells #[.int .i64 0, .int .i64 d] 143)))
  clear hb1
  go_wp2_with fail
  go_ret
  exact ⟨rfl, B1.out⟩
set_option maxHeartbeats 800000 in
theorem readDigest_no (l : Bs) (u : TypeId) (vp : Value) (w : World) (h : hexW l = none) (hg : ∀ w' : World, Below w.heap.size w w' → w'.cell? ⟨0, 0, none⟩ = some (.iface u vp)) :
    Calls Tryz.prog 80 #[.string (str l)] w fun r w' => r = Dies u vp ∧ Below w.heap.size w w' := by
  have HG := hide hg
  have HC := hide (hexW_no h)
  clear hg h
  go_enter Tryz.func80, Tryz.ntmps80
  go_wp2_with fail
  refine (implParseHex_any (str l) w).mono ?_
  rw [HC.out]
  generalize pvValue (str l) = V
  rintro r w1 ⟨rfl, hb1⟩
  have B1 := hide (below_next hb1 (below_alloc w1 (.cells #[.int .i64 5, .int .i64 V] 143)))
  clear hb1
  have hcell := HG.out _ B1.out
  go_wp2_with fail
  exact ⟨rfl, rfl, B1.out⟩

set_option maxHeartbeats 800000 in
theorem mustTell_yes (s : Bs) (w : World) : Calls Tryz.prog 31 #[.agg #[.int .i64 0, .string (str s)], .string (str s)] w fun r w' => r = .returned (.tuple #[]) ∧ Below w.heap.size w w' := by
  have B0 := hide (below_alloc w (.cells #[.int .i64 0, .string (str s)] 35))
  obtain ⟨⟨m0, m1⟩, m2, m3⟩ := Box.new w (.int .i64 0) (.string (str s)) 35
  go_enter Tryz.func31, Tryz.ntmps31
  go_wp2_with fail
  first | go_end0 | skip
  exact ⟨rfl, B0.out⟩
set_option maxHeartbeats 800000 in
theorem mustTell_no (c : Int) (s t : Bs) (u : TypeId) (vp : Value) (w : World) (h : c ≠ 0 ∨ s ≠ t) (hg : ∀ w' : World, Below w.heap.size w w' → w'.cell? ⟨0, 0, none⟩ = some (.iface u vp)) :
    Calls Tryz.prog 31 #[.agg #[.int .i64 c, .string (str s)], .string (str t)] w fun r w' => r = Dies u vp ∧ Below w.heap.size w w' := by
  have B0 := hide (below_alloc w (.cells #[.int .i64 c, .string (str s)] 35))
  have hcell := hg _ B0.out
  clear hg
  obtain ⟨⟨m0, m1⟩, m2, m3⟩ := Box.new w (.int .i64 c) (.string (str s)) 35
  by_cases hc : c = 0
  · subst hc
    have hst : s ≠ t := h.elim (fun h => absurd rfl h) id
    have hs0 : ((str s).toList == (str t).toList) = false := strNo hst
    clear h hst
    go_enter Tryz.func31, Tryz.ntmps31
    go_wp2_with fail
    exact ⟨rfl, rfl, B0.out⟩
  · have hne : (c != 0) = true := by simp [hc]
    clear h hc
    go_enter Tryz.func31, Tryz.ntmps31
    go_wp2_with fail
    exact ⟨rfl, rfl, B0.out⟩
end Go.Proofs.YtcknabinmbknaaaGreatDoor
