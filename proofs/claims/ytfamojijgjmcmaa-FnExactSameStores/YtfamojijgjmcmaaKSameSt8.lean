/-
  Texts put together: StoE.
-/
import Derived.Test.YtfamojijgjmcmaaKSameSt5
namespace Go.Proofs.Ytfamojijgjmcmaa
open Go.ChangeShapes Go.WideShapes Go.ChangeAt Go.RowKit Go.Maps
set_option linter.unusedVariables false
attribute [local go_sem ↓] Go.wp_at_zero Go.wp_at_succ

set_option maxHeartbeats 800000 in
theorem l15Ints_any (a b : Option Addr) (ca cb : Nat) (xs ys : List Int) (w : World) (ha : Reads .i64 w a xs) (hb : Reads .i64 w b ys) (hl : xs.length ≤ 1048576) (hl2 : ys.length ≤ 1048576) :
    Calls Try.prog 13 #[.slice a xs.length ca, .slice b ys.length cb] w fun e w' => e = .returned (.bool (xs == ys)) ∧ ∃ n, w' = w.drewN n := by
  by_cases hlen : xs.length = ys.length
  · have hne : ((xs.length : Int) != (ys.length : Int)) = false := by simp [hlen]
    go_enter Try.func13, Try.ntmps13
    go_wp2
    go_loopw [5] (fun i wr => ∃ k : Nat, k ≤ xs.length ∧ i = .int .i64 k ∧ xs.take k = ys.take k ∧ ∃ n, wr = w.drewN n) (fun i _ => xs.length - (intOf i).toNat)
    case atStart => exact ⟨0, Nat.zero_le _, rfl, rfl, 0, rfl⟩
    case round =>
      obtain ⟨k, hk, rfl, htk, n, rfl⟩ := hrel
      have HT := hide htk
      clear htk
      by_cases hlt : k < xs.length
      · obtain ⟨b1, o1, rfl, hb1, hc1⟩ := ha (by intro e; simp [e] at hlt)
        obtain ⟨b2, o2, rfl, hb2, hc2⟩ := hb (by intro e; rw [e] at hlen; simp at hlen; simp [hlen] at hlt)
        obtain ⟨x, hx⟩ : ∃ x, x = xs.getD k 0 := ⟨_, rfl⟩
        obtain ⟨y, hy⟩ : ∃ y, y = ys.getD k 0 := ⟨_, rfl⟩
        have c1 : w.cell? ⟨b1, o1 + k, none⟩ = some (.int .i64 x) := by rw [hx]; exact hc1 k hlt
        have c2 : w.cell? ⟨b2, o2 + k, none⟩ = some (.int .i64 y) := by rw [hy]; exact hc2 k (by omega)
        have HX := hide hx
        have HY := hide hy
        clear hc1 hc2 ha hb hx hy
        have hk2 : k < ys.length := by omega
        by_cases heq : x = y
        · have hb : (x != y) = false := by simp [heq]
          have HE := hide heq
          clear heq
          go_wp2
          go_quiet (fail)
          go_wp2
          go_roundw
          case rel => exact ⟨k + 1, by omega, by go_num, take_eq_step hlt hk2 HT.out (by rw [← HX.out, ← HY.out]; exact HE.out), _, rfl⟩
          case measure => simp [intOf]; omega
        · have hb : (x != y) = true := by simp [heq]
          go_wp2
          go_quiet (fail)
          go_wp2
          go_ret
          exact ⟨ret_bool (ne_of_getD (k := k) (by rw [← HX.out, ← HY.out]; exact heq)).symm, _, World.drewN_drewN _ _ _⟩
      · go_wp2
        go_ret
        exact ⟨ret_bool (eq_of_take (k := k) (by omega) (by omega) HT.out).symm, _, rfl⟩
  · have hne : ((xs.length : Int) != (ys.length : Int)) = true := by simp; omega
    go_enter Try.func13, Try.ntmps13
    go_wp2
    go_ret
    have e : (xs == ys) = false := by simp; intro e; exact hlen (by rw [e])
    exact ⟨ret_bool e.symm, 0, rfl⟩
set_option maxRecDepth 100000 in
set_option maxHeartbeats 12800000 in
theorem l15Snap_any (a b : Option Addr) (c d n m : Nat) (es fs : List Sn) (w : World) (h : RdS w a es) (h2 : RdS w b fs) (hn : n = es.length) (hm : m = fs.length) (hs : SmallS es) (hs2 : SmallS fs) :
    Calls Try.prog 12 #[.slice a n c, .slice b m d] w (AnsB (es = fs) w) := by
  subst hn hm
  have hl := hs.1
  have hl2 := hs2.1
  have HA := hide h
  have HB := hide h2
  have HS := hide hs
  have HS2 := hide hs2
  clear h h2 hs hs2
  by_cases hlen : es.length = fs.length
  · have hne : ((es.length : Int) != (fs.length : Int)) = false := by simp [hlen]
    have HL := hide hlen
    clear hlen
    go_enter Try.func12, Try.ntmps12
    go_wp2_with fail
    go_loopw [5] (fun i wr => ∃ k : Nat, k ≤ es.length ∧ i = .int .i64 k ∧ Hid (es.take k = fs.take k) ∧ Hid (Below w.heap.size w wr)) (fun i _ => es.length - (intOf i).toNat)
    case atStart => exact ⟨0, Nat.zero_le _, rfl, hide rfl, hide (Below.refl _ _)⟩
    case round =>
      obtain ⟨k, hk, rfl, HT, HW⟩ := hrel
      by_cases hlt : k < es.length
      · obtain ⟨b1, o1, s, x, cc, rfl, hb1, he, p0, p1, p2, p3, p4, r1⟩ := (HA.out.below HW.out).at hlt
        obtain ⟨b2, o2, t, y, dd, rfl, hb2, hf, q0, q1, q2, q3, q4, r2⟩ := (HB.out.below HW.out).at (show k < fs.length by have := HL.out; omega)
        have hsm := HS.out.2 s (List.mem_of_getElem? he)
        have hsm2 := HS2.out.2 t (List.mem_of_getElem? hf)
        have HX1 := hide he
        have HX2 := hide hf
        have HSL := hide (fun u (hu : Below wr.heap.size wr u) => l4Same_any x y cc dd s.layer.length t.layer.length s.layer t.layer u (r1.below hu) (r2.below hu) rfl rfl hsm.2.2.1 hsm2.2.2.1 hsm.2.2.2 hsm2.2.2.2)
        have KC : Hid (∀ u : World, Below wr.heap.size wr u → (u.cell? ⟨b1, o1 + k * 5, none⟩ = some (.string (str s.name)) ∧ u.cell? ⟨b1, o1 + k * 5 + 1, none⟩ = some (.string (str s.parent)) ∧ u.cell? ⟨b1, o1 + k * 5 + 2, none⟩ = some (.int .i64 s.kind) ∧ u.cell? ⟨b1, o1 + k * 5 + 3, none⟩ = some (.bool s.lease) ∧ u.cell? ⟨b1, o1 + k * 5 + 4, none⟩ = some (.slice x s.layer.length cc)) ∧ (u.cell? ⟨b2, o2 + k * 5, none⟩ = some (.string (str t.name)) ∧ u.cell? ⟨b2, o2 + k * 5 + 1, none⟩ = some (.string (str t.parent)) ∧ u.cell? ⟨b2, o2 + k * 5 + 2, none⟩ = some (.int .i64 t.kind) ∧ u.cell? ⟨b2, o2 + k * 5 + 3, none⟩ = some (.bool t.lease) ∧ u.cell? ⟨b2, o2 + k * 5 + 4, none⟩ = some (.slice y t.layer.length dd))) := hide (fun u hu => ⟨⟨(hu.cell (p := ⟨b1, o1 + k * 5, none⟩) hb1).trans p0, (hu.cell (p := ⟨b1, o1 + k * 5 + 1, none⟩) hb1).trans p1, (hu.cell (p := ⟨b1, o1 + k * 5 + 2, none⟩) hb1).trans p2, (hu.cell (p := ⟨b1, o1 + k * 5 + 3, none⟩) hb1).trans p3, (hu.cell (p := ⟨b1, o1 + k * 5 + 4, none⟩) hb1).trans p4⟩, ⟨(hu.cell (p := ⟨b2, o2 + k * 5, none⟩) hb2).trans q0, (hu.cell (p := ⟨b2, o2 + k * 5 + 1, none⟩) hb2).trans q1, (hu.cell (p := ⟨b2, o2 + k * 5 + 2, none⟩) hb2).trans q2, (hu.cell (p := ⟨b2, o2 + k * 5 + 3, none⟩) hb2).trans q3, (hu.cell (p := ⟨b2, o2 + k * 5 + 4, none⟩) hb2).trans q4⟩⟩)
        clear he hf r1 r2 hsm hsm2
        have hkl : (k : Int) < (fs.length : Int) := by have := HL.out; omega
        have hkn : (k : Int) < (es.length : Int) := by omega
        have hk0 : ¬ (k : Int) < 0 := by omega
        by_cases hnm : s.name = t.name
        · have hbe := str_yes hnm
          by_cases hpa : s.parent = t.parent
          · have hbp := str_yes hpa
            by_cases hki : s.kind = t.kind
            · have hkb : (s.kind == t.kind) = true := by simp [hki]
              by_cases hle : s.lease = t.lease
              · have hlb : (s.lease == t.lease) = true := by simp [hle]
                obtain ⟨Z, hZ⟩ : ∃ Z, Z = decide (s.layer = t.layer) := ⟨_, rfl⟩
                rw [← hZ] at HSL
                have HZ := hide (show Z = true ↔ s = t from ⟨fun e => sn_eq hnm hpa hki hle (by rw [hZ] at e; exact of_decide_eq_true e), fun e => by rw [hZ]; exact decide_eq_true (by rw [e])⟩)
                clear hZ
                go_wp2_with fail
                clear p0 p1 p2 p3 p4 q0 q1 q2 q3 q4
                refine wp_region_held_drew (S := fun u : World => (u.cell? ⟨b1, o1 + k * 5, none⟩ = some (.string (str s.name)) ∧ u.cell? ⟨b1, o1 + k * 5 + 1, none⟩ = some (.string (str s.parent)) ∧ u.cell? ⟨b1, o1 + k * 5 + 2, none⟩ = some (.int .i64 s.kind) ∧ u.cell? ⟨b1, o1 + k * 5 + 3, none⟩ = some (.bool s.lease) ∧ u.cell? ⟨b1, o1 + k * 5 + 4, none⟩ = some (.slice x s.layer.length cc)) ∧ (u.cell? ⟨b2, o2 + k * 5, none⟩ = some (.string (str t.name)) ∧ u.cell? ⟨b2, o2 + k * 5 + 1, none⟩ = some (.string (str t.parent)) ∧ u.cell? ⟨b2, o2 + k * 5 + 2, none⟩ = some (.int .i64 t.kind) ∧ u.cell? ⟨b2, o2 + k * 5 + 3, none⟩ = some (.bool t.lease) ∧ u.cell? ⟨b2, o2 + k * 5 + 4, none⟩ = some (.slice y t.layer.length dd))) (by kernel_rfl) (KC.out _ (Below.refl _ _).drew) (fun hHeld => ?_)
                change wpAnyH _ _ _ _ _ _ (Array.replicate _ false) _ _
                refine tk 0 17 (.slice (some ⟨b1, o1, none⟩) es.length c) hHeld rfl (by kernel_rfl) (by kernel_rfl) (by kernel_rfl) (fun _ _ _ h => h) (Or.inl ⟨by rfl, ?_⟩) ?_
                · rintro w ⟨⟨p0, p1, p2, p3, p4⟩, q0, q1, q2, q3, q4⟩
                  go_simp <;> (first | done | assumption | omega | (intro _; omega))
                try simp only [Act.put, List.setIfInBounds_toArray, List.set_cons_zero, List.set_cons_succ]
                refine tk 1 18 (.int .i64 k) hHeld rfl (by kernel_rfl) (by kernel_rfl) (by kernel_rfl) (fun _ _ _ h => h) (Or.inl ⟨by rfl, ?_⟩) ?_
                · rintro w ⟨⟨p0, p1, p2, p3, p4⟩, q0, q1, q2, q3, q4⟩
                  go_simp <;> (first | done | assumption | omega | (intro _; omega))
                try simp only [Act.put, List.setIfInBounds_toArray, List.set_cons_zero, List.set_cons_succ]
                refine tk 2 19 (.pointer (some ⟨b1, o1 + k * 5, none⟩)) hHeld rfl (by kernel_rfl) (by kernel_rfl) (by kernel_rfl) (fun _ _ _ h => h) (Or.inl ⟨by rfl, ?_⟩) ?_
                · rintro w ⟨⟨p0, p1, p2, p3, p4⟩, q0, q1, q2, q3, q4⟩
                  go_simp <;> (first | done | assumption | omega | (intro _; omega))
                try simp only [Act.put, List.setIfInBounds_toArray, List.set_cons_zero, List.set_cons_succ]
                refine tk 3 20 (.pointer (some ⟨b1, o1 + k * 5, none⟩)) hHeld rfl (by kernel_rfl) (by kernel_rfl) (by kernel_rfl) (fun _ _ _ h => h) (Or.inl ⟨by rfl, ?_⟩) ?_
                · rintro w ⟨⟨p0, p1, p2, p3, p4⟩, q0, q1, q2, q3, q4⟩
                  go_simp <;> (first | done | assumption | omega | (intro _; omega))
                try simp only [Act.put, List.setIfInBounds_toArray, List.set_cons_zero, List.set_cons_succ]
                refine tk 4 21 (.string (str s.name)) hHeld rfl (by kernel_rfl) (by kernel_rfl) (by kernel_rfl) (fun _ _ _ h => h) (Or.inl ⟨by rfl, ?_⟩) ?_
                · rintro w ⟨⟨p0, p1, p2, p3, p4⟩, q0, q1, q2, q3, q4⟩
                  go_simp <;> (first | done | assumption | omega | (intro _; omega))
                try simp only [Act.put, List.setIfInBounds_toArray, List.set_cons_zero, List.set_cons_succ]
                refine tk 5 22 (.slice (some ⟨b2, o2, none⟩) fs.length d) hHeld rfl (by kernel_rfl) (by kernel_rfl) (by kernel_rfl) (fun _ _ _ h => h) (Or.inl ⟨by rfl, ?_⟩) ?_
                · rintro w ⟨⟨p0, p1, p2, p3, p4⟩, q0, q1, q2, q3, q4⟩
                  go_simp <;> (first | done | assumption | omega | (intro _; omega))
                try simp only [Act.put, List.setIfInBounds_toArray, List.set_cons_zero, List.set_cons_succ]
                refine tk 6 23 (.int .i64 k) hHeld rfl (by kernel_rfl) (by kernel_rfl) (by kernel_rfl) (fun _ _ _ h => h) (Or.inl ⟨by rfl, ?_⟩) ?_
                · rintro w ⟨⟨p0, p1, p2, p3, p4⟩, q0, q1, q2, q3, q4⟩
                  go_simp <;> (first | done | assumption | omega | (intro _; omega))
                try simp only [Act.put, List.setIfInBounds_toArray, List.set_cons_zero, List.set_cons_succ]
                refine tk 7 24 (.pointer (some ⟨b2, o2 + k * 5, none⟩)) hHeld rfl (by kernel_rfl) (by kernel_rfl) (by kernel_rfl) (fun _ _ _ h => h) (Or.inl ⟨by rfl, ?_⟩) ?_
                · rintro w ⟨⟨p0, p1, p2, p3, p4⟩, q0, q1, q2, q3, q4⟩
                  go_simp <;> (first | done | assumption | omega | (intro _; omega))
                try simp only [Act.put, List.setIfInBounds_toArray, List.set_cons_zero, List.set_cons_succ]
                refine tk 8 25 (.pointer (some ⟨b2, o2 + k * 5, none⟩)) hHeld rfl (by kernel_rfl) (by kernel_rfl) (by kernel_rfl) (fun _ _ _ h => h) (Or.inl ⟨by rfl, ?_⟩) ?_
                · rintro w ⟨⟨p0, p1, p2, p3, p4⟩, q0, q1, q2, q3, q4⟩
                  go_simp <;> (first | done | assumption | omega | (intro _; omega))
                try simp only [Act.put, List.setIfInBounds_toArray, List.set_cons_zero, List.set_cons_succ]
                refine tk 9 26 (.string (str t.name)) hHeld rfl (by kernel_rfl) (by kernel_rfl) (by kernel_rfl) (fun _ _ _ h => h) (Or.inl ⟨by rfl, ?_⟩) ?_
                · rintro w ⟨⟨p0, p1, p2, p3, p4⟩, q0, q1, q2, q3, q4⟩
                  go_simp <;> (first | done | assumption | omega | (intro _; omega))
                try simp only [Act.put, List.setIfInBounds_toArray, List.set_cons_zero, List.set_cons_succ]
                refine tk 10 27 (.bool false) hHeld rfl (by kernel_rfl) (by kernel_rfl) (by kernel_rfl) (fun _ _ _ h => h) (Or.inl ⟨by rfl, ?_⟩) ?_
                · rintro w ⟨⟨p0, p1, p2, p3, p4⟩, q0, q1, q2, q3, q4⟩
                  go_simp <;> (first | done | assumption | omega | (intro _; omega))
                try simp only [Act.put, List.setIfInBounds_toArray, List.set_cons_zero, List.set_cons_succ]
                refine tk 11 28 (.bool false) hHeld rfl (by kernel_rfl) (by kernel_rfl) (by kernel_rfl) (fun _ _ _ h => h) (Or.inl ⟨by rfl, ?_⟩) ?_
                · rintro w ⟨⟨p0, p1, p2, p3, p4⟩, q0, q1, q2, q3, q4⟩
                  go_simp <;> (first | done | assumption | omega | (intro _; omega))
                try simp only [Act.put, List.setIfInBounds_toArray, List.set_cons_zero, List.set_cons_succ]
                refine tk 12 29 (.slice (some ⟨b1, o1, none⟩) es.length c) hHeld rfl (by kernel_rfl) (by kernel_rfl) (by kernel_rfl) (fun _ _ _ h => h) (Or.inl ⟨by rfl, ?_⟩) ?_
                · rintro w ⟨⟨p0, p1, p2, p3, p4⟩, q0, q1, q2, q3, q4⟩
                  go_simp <;> (first | done | assumption | omega | (intro _; omega))
                try simp only [Act.put, List.setIfInBounds_toArray, List.set_cons_zero, List.set_cons_succ]
                refine tk 13 30 (.int .i64 k) hHeld rfl (by kernel_rfl) (by kernel_rfl) (by kernel_rfl) (fun _ _ _ h => h) (Or.inl ⟨by rfl, ?_⟩) ?_
                · rintro w ⟨⟨p0, p1, p2, p3, p4⟩, q0, q1, q2, q3, q4⟩
                  go_simp <;> (first | done | assumption | omega | (intro _; omega))
                try simp only [Act.put, List.setIfInBounds_toArray, List.set_cons_zero, List.set_cons_succ]
                refine tk 14 31 (.pointer (some ⟨b1, o1 + k * 5, none⟩)) hHeld rfl (by kernel_rfl) (by kernel_rfl) (by kernel_rfl) (fun _ _ _ h => h) (Or.inl ⟨by rfl, ?_⟩) ?_
                · rintro w ⟨⟨p0, p1, p2, p3, p4⟩, q0, q1, q2, q3, q4⟩
                  go_simp <;> (first | done | assumption | omega | (intro _; omega))
                try simp only [Act.put, List.setIfInBounds_toArray, List.set_cons_zero, List.set_cons_succ]
                refine tk 15 32 (.pointer (some ⟨b1, o1 + k * 5 + 1, none⟩)) hHeld rfl (by kernel_rfl) (by kernel_rfl) (by kernel_rfl) (fun _ _ _ h => h) (Or.inl ⟨by rfl, ?_⟩) ?_
                · rintro w ⟨⟨p0, p1, p2, p3, p4⟩, q0, q1, q2, q3, q4⟩
                  go_simp <;> (first | done | assumption | omega | (intro _; omega))
                try simp only [Act.put, List.setIfInBounds_toArray, List.set_cons_zero, List.set_cons_succ]
                refine tk 16 33 (.string (str s.parent)) hHeld rfl (by kernel_rfl) (by kernel_rfl) (by kernel_rfl) (fun _ _ _ h => h) (Or.inl ⟨by rfl, ?_⟩) ?_
                · rintro w ⟨⟨p0, p1, p2, p3, p4⟩, q0, q1, q2, q3, q4⟩
                  go_simp <;> (first | done | assumption | omega | (intro _; omega))
                try simp only [Act.put, List.setIfInBounds_toArray, List.set_cons_zero, List.set_cons_succ]
                refine tk 17 34 (.slice (some ⟨b2, o2, none⟩) fs.length d) hHeld rfl (by kernel_rfl) (by kernel_rfl) (by kernel_rfl) (fun _ _ _ h => h) (Or.inl ⟨by rfl, ?_⟩) ?_
                · rintro w ⟨⟨p0, p1, p2, p3, p4⟩, q0, q1, q2, q3, q4⟩
                  go_simp <;> (first | done | assumption | omega | (intro _; omega))
                try simp only [Act.put, List.setIfInBounds_toArray, List.set_cons_zero, List.set_cons_succ]
                refine tk 18 35 (.int .i64 k) hHeld rfl (by kernel_rfl) (by kernel_rfl) (by kernel_rfl) (fun _ _ _ h => h) (Or.inl ⟨by rfl, ?_⟩) ?_
                · rintro w ⟨⟨p0, p1, p2, p3, p4⟩, q0, q1, q2, q3, q4⟩
                  go_simp <;> (first | done | assumption | omega | (intro _; omega))
                try simp only [Act.put, List.setIfInBounds_toArray, List.set_cons_zero, List.set_cons_succ]
                refine tk 19 36 (.pointer (some ⟨b2, o2 + k * 5, none⟩)) hHeld rfl (by kernel_rfl) (by kernel_rfl) (by kernel_rfl) (fun _ _ _ h => h) (Or.inl ⟨by rfl, ?_⟩) ?_
                · rintro w ⟨⟨p0, p1, p2, p3, p4⟩, q0, q1, q2, q3, q4⟩
                  go_simp <;> (first | done | assumption | omega | (intro _; omega))
                try simp only [Act.put, List.setIfInBounds_toArray, List.set_cons_zero, List.set_cons_succ]
                refine tk 20 37 (.pointer (some ⟨b2, o2 + k * 5 + 1, none⟩)) hHeld rfl (by kernel_rfl) (by kernel_rfl) (by kernel_rfl) (fun _ _ _ h => h) (Or.inl ⟨by rfl, ?_⟩) ?_
                · rintro w ⟨⟨p0, p1, p2, p3, p4⟩, q0, q1, q2, q3, q4⟩
                  go_simp <;> (first | done | assumption | omega | (intro _; omega))
                try simp only [Act.put, List.setIfInBounds_toArray, List.set_cons_zero, List.set_cons_succ]
                refine tk 21 38 (.string (str t.parent)) hHeld rfl (by kernel_rfl) (by kernel_rfl) (by kernel_rfl) (fun _ _ _ h => h) (Or.inl ⟨by rfl, ?_⟩) ?_
                · rintro w ⟨⟨p0, p1, p2, p3, p4⟩, q0, q1, q2, q3, q4⟩
                  go_simp <;> (first | done | assumption | omega | (intro _; omega))
                try simp only [Act.put, List.setIfInBounds_toArray, List.set_cons_zero, List.set_cons_succ]
                refine tk 22 39 (.bool false) hHeld rfl (by kernel_rfl) (by kernel_rfl) (by kernel_rfl) (fun _ _ _ h => h) (Or.inl ⟨by rfl, ?_⟩) ?_
                · rintro w ⟨⟨p0, p1, p2, p3, p4⟩, q0, q1, q2, q3, q4⟩
                  go_simp <;> (first | done | assumption | omega | (intro _; omega))
                try simp only [Act.put, List.setIfInBounds_toArray, List.set_cons_zero, List.set_cons_succ]
                refine tk 23 40 (.bool false) hHeld rfl (by kernel_rfl) (by kernel_rfl) (by kernel_rfl) (fun _ _ _ h => h) (Or.inl ⟨by rfl, ?_⟩) ?_
                · rintro w ⟨⟨p0, p1, p2, p3, p4⟩, q0, q1, q2, q3, q4⟩
                  go_simp <;> (first | done | assumption | omega | (intro _; omega))
                try simp only [Act.put, List.setIfInBounds_toArray, List.set_cons_zero, List.set_cons_succ]
                refine tk 24 41 (.bool false) hHeld rfl (by kernel_rfl) (by kernel_rfl) (by kernel_rfl) (fun _ _ _ h => h) (Or.inl ⟨by rfl, ?_⟩) ?_
                · rintro w ⟨⟨p0, p1, p2, p3, p4⟩, q0, q1, q2, q3, q4⟩
                  go_simp <;> (first | done | assumption | omega | (intro _; omega))
                try simp only [Act.put, List.setIfInBounds_toArray, List.set_cons_zero, List.set_cons_succ]
                refine tk 25 42 (.slice (some ⟨b1, o1, none⟩) es.length c) hHeld rfl (by kernel_rfl) (by kernel_rfl) (by kernel_rfl) (fun _ _ _ h => h) (Or.inl ⟨by rfl, ?_⟩) ?_
                · rintro w ⟨⟨p0, p1, p2, p3, p4⟩, q0, q1, q2, q3, q4⟩
                  go_simp <;> (first | done | assumption | omega | (intro _; omega))
                try simp only [Act.put, List.setIfInBounds_toArray, List.set_cons_zero, List.set_cons_succ]
                refine tk 26 43 (.int .i64 k) hHeld rfl (by kernel_rfl) (by kernel_rfl) (by kernel_rfl) (fun _ _ _ h => h) (Or.inl ⟨by rfl, ?_⟩) ?_
                · rintro w ⟨⟨p0, p1, p2, p3, p4⟩, q0, q1, q2, q3, q4⟩
                  go_simp <;> (first | done | assumption | omega | (intro _; omega))
                try simp only [Act.put, List.setIfInBounds_toArray, List.set_cons_zero, List.set_cons_succ]
                refine tk 27 44 (.pointer (some ⟨b1, o1 + k * 5, none⟩)) hHeld rfl (by kernel_rfl) (by kernel_rfl) (by kernel_rfl) (fun _ _ _ h => h) (Or.inl ⟨by rfl, ?_⟩) ?_
                · rintro w ⟨⟨p0, p1, p2, p3, p4⟩, q0, q1, q2, q3, q4⟩
                  go_simp <;> (first | done | assumption | omega | (intro _; omega))
                try simp only [Act.put, List.setIfInBounds_toArray, List.set_cons_zero, List.set_cons_succ]
                refine tk 28 45 (.pointer (some ⟨b1, o1 + k * 5 + 2, none⟩)) hHeld rfl (by kernel_rfl) (by kernel_rfl) (by kernel_rfl) (fun _ _ _ h => h) (Or.inl ⟨by rfl, ?_⟩) ?_
                · rintro w ⟨⟨p0, p1, p2, p3, p4⟩, q0, q1, q2, q3, q4⟩
                  go_simp <;> (first | done | assumption | omega | (intro _; omega))
                try simp only [Act.put, List.setIfInBounds_toArray, List.set_cons_zero, List.set_cons_succ]
                refine tk 29 46 (.int .i64 s.kind) hHeld rfl (by kernel_rfl) (by kernel_rfl) (by kernel_rfl) (fun _ _ _ h => h) (Or.inl ⟨by rfl, ?_⟩) ?_
                · rintro w ⟨⟨p0, p1, p2, p3, p4⟩, q0, q1, q2, q3, q4⟩
                  go_simp <;> (first | done | assumption | omega | (intro _; omega))
                try simp only [Act.put, List.setIfInBounds_toArray, List.set_cons_zero, List.set_cons_succ]
                refine tk 30 47 (.slice (some ⟨b2, o2, none⟩) fs.length d) hHeld rfl (by kernel_rfl) (by kernel_rfl) (by kernel_rfl) (fun _ _ _ h => h) (Or.inl ⟨by rfl, ?_⟩) ?_
                · rintro w ⟨⟨p0, p1, p2, p3, p4⟩, q0, q1, q2, q3, q4⟩
                  go_simp <;> (first | done | assumption | omega | (intro _; omega))
                try simp only [Act.put, List.setIfInBounds_toArray, List.set_cons_zero, List.set_cons_succ]
                refine tk 31 48 (.int .i64 k) hHeld rfl (by kernel_rfl) (by kernel_rfl) (by kernel_rfl) (fun _ _ _ h => h) (Or.inl ⟨by rfl, ?_⟩) ?_
                · rintro w ⟨⟨p0, p1, p2, p3, p4⟩, q0, q1, q2, q3, q4⟩
                  go_simp <;> (first | done | assumption | omega | (intro _; omega))
                try simp only [Act.put, List.setIfInBounds_toArray, List.set_cons_zero, List.set_cons_succ]
                refine tk 32 49 (.pointer (some ⟨b2, o2 + k * 5, none⟩)) hHeld rfl (by kernel_rfl) (by kernel_rfl) (by kernel_rfl) (fun _ _ _ h => h) (Or.inl ⟨by rfl, ?_⟩) ?_
                · rintro w ⟨⟨p0, p1, p2, p3, p4⟩, q0, q1, q2, q3, q4⟩
                  go_simp <;> (first | done | assumption | omega | (intro _; omega))
                try simp only [Act.put, List.setIfInBounds_toArray, List.set_cons_zero, List.set_cons_succ]
                refine tk 33 50 (.pointer (some ⟨b2, o2 + k * 5 + 2, none⟩)) hHeld rfl (by kernel_rfl) (by kernel_rfl) (by kernel_rfl) (fun _ _ _ h => h) (Or.inl ⟨by rfl, ?_⟩) ?_
                · rintro w ⟨⟨p0, p1, p2, p3, p4⟩, q0, q1, q2, q3, q4⟩
                  go_simp <;> (first | done | assumption | omega | (intro _; omega))
                try simp only [Act.put, List.setIfInBounds_toArray, List.set_cons_zero, List.set_cons_succ]
                refine tk 34 51 (.int .i64 t.kind) hHeld rfl (by kernel_rfl) (by kernel_rfl) (by kernel_rfl) (fun _ _ _ h => h) (Or.inl ⟨by rfl, ?_⟩) ?_
                · rintro w ⟨⟨p0, p1, p2, p3, p4⟩, q0, q1, q2, q3, q4⟩
                  go_simp <;> (first | done | assumption | omega | (intro _; omega))
                try simp only [Act.put, List.setIfInBounds_toArray, List.set_cons_zero, List.set_cons_succ]
                refine tk 35 52 (.bool false) hHeld rfl (by kernel_rfl) (by kernel_rfl) (by kernel_rfl) (fun _ _ _ h => h) (Or.inl ⟨by rfl, ?_⟩) ?_
                · rintro w ⟨⟨p0, p1, p2, p3, p4⟩, q0, q1, q2, q3, q4⟩
                  go_simp <;> (first | done | assumption | omega | (intro _; omega))
                try simp only [Act.put, List.setIfInBounds_toArray, List.set_cons_zero, List.set_cons_succ]
                refine tk 36 53 (.bool false) hHeld rfl (by kernel_rfl) (by kernel_rfl) (by kernel_rfl) (fun _ _ _ h => h) (Or.inl ⟨by rfl, ?_⟩) ?_
                · rintro w ⟨⟨p0, p1, p2, p3, p4⟩, q0, q1, q2, q3, q4⟩
                  go_simp <;> (first | done | assumption | omega | (intro _; omega))
                try simp only [Act.put, List.setIfInBounds_toArray, List.set_cons_zero, List.set_cons_succ]
                refine tk 37 54 (.bool false) hHeld rfl (by kernel_rfl) (by kernel_rfl) (by kernel_rfl) (fun _ _ _ h => h) (Or.inl ⟨by rfl, ?_⟩) ?_
                · rintro w ⟨⟨p0, p1, p2, p3, p4⟩, q0, q1, q2, q3, q4⟩
                  go_simp <;> (first | done | assumption | omega | (intro _; omega))
                try simp only [Act.put, List.setIfInBounds_toArray, List.set_cons_zero, List.set_cons_succ]
                refine tk 38 55 (.slice (some ⟨b1, o1, none⟩) es.length c) hHeld rfl (by kernel_rfl) (by kernel_rfl) (by kernel_rfl) (fun _ _ _ h => h) (Or.inl ⟨by rfl, ?_⟩) ?_
                · rintro w ⟨⟨p0, p1, p2, p3, p4⟩, q0, q1, q2, q3, q4⟩
                  go_simp <;> (first | done | assumption | omega | (intro _; omega))
                try simp only [Act.put, List.setIfInBounds_toArray, List.set_cons_zero, List.set_cons_succ]
                refine tk 39 56 (.int .i64 k) hHeld rfl (by kernel_rfl) (by kernel_rfl) (by kernel_rfl) (fun _ _ _ h => h) (Or.inl ⟨by rfl, ?_⟩) ?_
                · rintro w ⟨⟨p0, p1, p2, p3, p4⟩, q0, q1, q2, q3, q4⟩
                  go_simp <;> (first | done | assumption | omega | (intro _; omega))
                try simp only [Act.put, List.setIfInBounds_toArray, List.set_cons_zero, List.set_cons_succ]
                refine tk 40 57 (.pointer (some ⟨b1, o1 + k * 5, none⟩)) hHeld rfl (by kernel_rfl) (by kernel_rfl) (by kernel_rfl) (fun _ _ _ h => h) (Or.inl ⟨by rfl, ?_⟩) ?_
                · rintro w ⟨⟨p0, p1, p2, p3, p4⟩, q0, q1, q2, q3, q4⟩
                  go_simp <;> (first | done | assumption | omega | (intro _; omega))
                try simp only [Act.put, List.setIfInBounds_toArray, List.set_cons_zero, List.set_cons_succ]
                refine tk 41 58 (.pointer (some ⟨b1, o1 + k * 5 + 3, none⟩)) hHeld rfl (by kernel_rfl) (by kernel_rfl) (by kernel_rfl) (fun _ _ _ h => h) (Or.inl ⟨by rfl, ?_⟩) ?_
                · rintro w ⟨⟨p0, p1, p2, p3, p4⟩, q0, q1, q2, q3, q4⟩
                  go_simp <;> (first | done | assumption | omega | (intro _; omega))
                try simp only [Act.put, List.setIfInBounds_toArray, List.set_cons_zero, List.set_cons_succ]
                refine tk 42 59 (.bool s.lease) hHeld rfl (by kernel_rfl) (by kernel_rfl) (by kernel_rfl) (fun _ _ _ h => h) (Or.inl ⟨by rfl, ?_⟩) ?_
                · rintro w ⟨⟨p0, p1, p2, p3, p4⟩, q0, q1, q2, q3, q4⟩
                  go_simp <;> (first | done | assumption | omega | (intro _; omega))
                try simp only [Act.put, List.setIfInBounds_toArray, List.set_cons_zero, List.set_cons_succ]
                refine tk 43 60 (.slice (some ⟨b2, o2, none⟩) fs.length d) hHeld rfl (by kernel_rfl) (by kernel_rfl) (by kernel_rfl) (fun _ _ _ h => h) (Or.inl ⟨by rfl, ?_⟩) ?_
                · rintro w ⟨⟨p0, p1, p2, p3, p4⟩, q0, q1, q2, q3, q4⟩
                  go_simp <;> (first | done | assumption | omega | (intro _; omega))
                try simp only [Act.put, List.setIfInBounds_toArray, List.set_cons_zero, List.set_cons_succ]
                refine tk 44 61 (.int .i64 k) hHeld rfl (by kernel_rfl) (by kernel_rfl) (by kernel_rfl) (fun _ _ _ h => h) (Or.inl ⟨by rfl, ?_⟩) ?_
                · rintro w ⟨⟨p0, p1, p2, p3, p4⟩, q0, q1, q2, q3, q4⟩
                  go_simp <;> (first | done | assumption | omega | (intro _; omega))
                try simp only [Act.put, List.setIfInBounds_toArray, List.set_cons_zero, List.set_cons_succ]
                refine tk 45 62 (.pointer (some ⟨b2, o2 + k * 5, none⟩)) hHeld rfl (by kernel_rfl) (by kernel_rfl) (by kernel_rfl) (fun _ _ _ h => h) (Or.inl ⟨by rfl, ?_⟩) ?_
                · rintro w ⟨⟨p0, p1, p2, p3, p4⟩, q0, q1, q2, q3, q4⟩
                  go_simp <;> (first | done | assumption | omega | (intro _; omega))
                try simp only [Act.put, List.setIfInBounds_toArray, List.set_cons_zero, List.set_cons_succ]
                refine tk 46 63 (.pointer (some ⟨b2, o2 + k * 5 + 3, none⟩)) hHeld rfl (by kernel_rfl) (by kernel_rfl) (by kernel_rfl) (fun _ _ _ h => h) (Or.inl ⟨by rfl, ?_⟩) ?_
                · rintro w ⟨⟨p0, p1, p2, p3, p4⟩, q0, q1, q2, q3, q4⟩
                  go_simp <;> (first | done | assumption | omega | (intro _; omega))
                try simp only [Act.put, List.setIfInBounds_toArray, List.set_cons_zero, List.set_cons_succ]
                refine tk 47 64 (.bool t.lease) hHeld rfl (by kernel_rfl) (by kernel_rfl) (by kernel_rfl) (fun _ _ _ h => h) (Or.inl ⟨by rfl, ?_⟩) ?_
                · rintro w ⟨⟨p0, p1, p2, p3, p4⟩, q0, q1, q2, q3, q4⟩
                  go_simp <;> (first | done | assumption | omega | (intro _; omega))
                try simp only [Act.put, List.setIfInBounds_toArray, List.set_cons_zero, List.set_cons_succ]
                refine tk 48 65 (.bool false) hHeld rfl (by kernel_rfl) (by kernel_rfl) (by kernel_rfl) (fun _ _ _ h => h) (Or.inl ⟨by rfl, ?_⟩) ?_
                · rintro w ⟨⟨p0, p1, p2, p3, p4⟩, q0, q1, q2, q3, q4⟩
                  go_simp <;> (first | done | assumption | omega | (intro _; omega))
                try simp only [Act.put, List.setIfInBounds_toArray, List.set_cons_zero, List.set_cons_succ]
                refine tk 49 66 (.bool false) hHeld rfl (by kernel_rfl) (by kernel_rfl) (by kernel_rfl) (fun _ _ _ h => h) (Or.inl ⟨by rfl, ?_⟩) ?_
                · rintro w ⟨⟨p0, p1, p2, p3, p4⟩, q0, q1, q2, q3, q4⟩
                  go_simp <;> (first | done | assumption | omega | (intro _; omega))
                try simp only [Act.put, List.setIfInBounds_toArray, List.set_cons_zero, List.set_cons_succ]
                refine tk 50 67 (.bool false) hHeld rfl (by kernel_rfl) (by kernel_rfl) (by kernel_rfl) (fun _ _ _ h => h) (Or.inl ⟨by rfl, ?_⟩) ?_
                · rintro w ⟨⟨p0, p1, p2, p3, p4⟩, q0, q1, q2, q3, q4⟩
                  go_simp <;> (first | done | assumption | omega | (intro _; omega))
                try simp only [Act.put, List.setIfInBounds_toArray, List.set_cons_zero, List.set_cons_succ]
                refine tk 51 68 (.slice (some ⟨b1, o1, none⟩) es.length c) hHeld rfl (by kernel_rfl) (by kernel_rfl) (by kernel_rfl) (fun _ _ _ h => h) (Or.inl ⟨by rfl, ?_⟩) ?_
                · rintro w ⟨⟨p0, p1, p2, p3, p4⟩, q0, q1, q2, q3, q4⟩
                  go_simp <;> (first | done | assumption | omega | (intro _; omega))
                try simp only [Act.put, List.setIfInBounds_toArray, List.set_cons_zero, List.set_cons_succ]
                refine tk 52 69 (.int .i64 k) hHeld rfl (by kernel_rfl) (by kernel_rfl) (by kernel_rfl) (fun _ _ _ h => h) (Or.inl ⟨by rfl, ?_⟩) ?_
                · rintro w ⟨⟨p0, p1, p2, p3, p4⟩, q0, q1, q2, q3, q4⟩
                  go_simp <;> (first | done | assumption | omega | (intro _; omega))
                try simp only [Act.put, List.setIfInBounds_toArray, List.set_cons_zero, List.set_cons_succ]
                refine tk 53 70 (.pointer (some ⟨b1, o1 + k * 5, none⟩)) hHeld rfl (by kernel_rfl) (by kernel_rfl) (by kernel_rfl) (fun _ _ _ h => h) (Or.inl ⟨by rfl, ?_⟩) ?_
                · rintro w ⟨⟨p0, p1, p2, p3, p4⟩, q0, q1, q2, q3, q4⟩
                  go_simp <;> (first | done | assumption | omega | (intro _; omega))
                try simp only [Act.put, List.setIfInBounds_toArray, List.set_cons_zero, List.set_cons_succ]
                refine tk 54 71 (.pointer (some ⟨b1, o1 + k * 5 + 4, none⟩)) hHeld rfl (by kernel_rfl) (by kernel_rfl) (by kernel_rfl) (fun _ _ _ h => h) (Or.inl ⟨by rfl, ?_⟩) ?_
                · rintro w ⟨⟨p0, p1, p2, p3, p4⟩, q0, q1, q2, q3, q4⟩
                  go_simp <;> (first | done | assumption | omega | (intro _; omega))
                try simp only [Act.put, List.setIfInBounds_toArray, List.set_cons_zero, List.set_cons_succ]
                refine tk 55 72 (.slice x s.layer.length cc) hHeld rfl (by kernel_rfl) (by kernel_rfl) (by kernel_rfl) (fun _ _ _ h => h) (Or.inl ⟨by rfl, ?_⟩) ?_
                · rintro w ⟨⟨p0, p1, p2, p3, p4⟩, q0, q1, q2, q3, q4⟩
                  go_simp <;> (first | done | assumption | omega | (intro _; omega))
                try simp only [Act.put, List.setIfInBounds_toArray, List.set_cons_zero, List.set_cons_succ]
                refine tk 56 73 (.slice (some ⟨b2, o2, none⟩) fs.length d) hHeld rfl (by kernel_rfl) (by kernel_rfl) (by kernel_rfl) (fun _ _ _ h => h) (Or.inl ⟨by rfl, ?_⟩) ?_
                · rintro w ⟨⟨p0, p1, p2, p3, p4⟩, q0, q1, q2, q3, q4⟩
                  go_simp <;> (first | done | assumption | omega | (intro _; omega))
                try simp only [Act.put, List.setIfInBounds_toArray, List.set_cons_zero, List.set_cons_succ]
                refine tk 57 74 (.int .i64 k) hHeld rfl (by kernel_rfl) (by kernel_rfl) (by kernel_rfl) (fun _ _ _ h => h) (Or.inl ⟨by rfl, ?_⟩) ?_
                · rintro w ⟨⟨p0, p1, p2, p3, p4⟩, q0, q1, q2, q3, q4⟩
                  go_simp <;> (first | done | assumption | omega | (intro _; omega))
                try simp only [Act.put, List.setIfInBounds_toArray, List.set_cons_zero, List.set_cons_succ]
                refine tk 58 75 (.pointer (some ⟨b2, o2 + k * 5, none⟩)) hHeld rfl (by kernel_rfl) (by kernel_rfl) (by kernel_rfl) (fun _ _ _ h => h) (Or.inl ⟨by rfl, ?_⟩) ?_
                · rintro w ⟨⟨p0, p1, p2, p3, p4⟩, q0, q1, q2, q3, q4⟩
                  go_simp <;> (first | done | assumption | omega | (intro _; omega))
                try simp only [Act.put, List.setIfInBounds_toArray, List.set_cons_zero, List.set_cons_succ]
                refine tk 59 76 (.pointer (some ⟨b2, o2 + k * 5 + 4, none⟩)) hHeld rfl (by kernel_rfl) (by kernel_rfl) (by kernel_rfl) (fun _ _ _ h => h) (Or.inl ⟨by rfl, ?_⟩) ?_
                · rintro w ⟨⟨p0, p1, p2, p3, p4⟩, q0, q1, q2, q3, q4⟩
                  go_simp <;> (first | done | assumption | omega | (intro _; omega))
                try simp only [Act.put, List.setIfInBounds_toArray, List.set_cons_zero, List.set_cons_succ]
                refine tk 60 77 (.slice y t.layer.length dd) hHeld rfl (by kernel_rfl) (by kernel_rfl) (by kernel_rfl) (fun _ _ _ h => h) (Or.inl ⟨by rfl, ?_⟩) ?_
                · rintro w ⟨⟨p0, p1, p2, p3, p4⟩, q0, q1, q2, q3, q4⟩
                  go_simp <;> (first | done | assumption | omega | (intro _; omega))
                try simp only [Act.put, List.setIfInBounds_toArray, List.set_cons_zero, List.set_cons_succ]
                refine wpAnyH_ready (rs := [61]) (by kernel_rfl) (by simp) ?_
                refine AllReadyH.cons rfl (fun K hK => ?_) AllReadyH.nil
                go_simp
                refine (HSL.out _ (Below.refl _ _).drew).mono ?_
                rintro r w5 ⟨rfl, hb5⟩
                have BB3 := hide ((Below.refl wr.heap.size wr).drew.trans hb5)
                clear hb5
                go_wp2_with fail
                refine hK.out _ _ (KC.out _ BB3.out) (fun hHeld => ?_)
                clear hK K
                try simp only [Act.put, List.setIfInBounds_toArray, List.set_cons_zero, List.set_cons_succ]
                refine tk 62 79 (.bool (!Z)) hHeld rfl (by kernel_rfl) (by kernel_rfl) (by kernel_rfl) (fun _ _ _ h => h) (Or.inl ⟨by rfl, ?_⟩) ?_
                · rintro w ⟨⟨p0, p1, p2, p3, p4⟩, q0, q1, q2, q3, q4⟩
                  go_simp <;> (first | done | assumption | omega | (intro _; omega))
                try simp only [Act.put, List.setIfInBounds_toArray, List.set_cons_zero, List.set_cons_succ]
                refine tk 63 80 (.bool (!Z)) hHeld rfl (by kernel_rfl) (by kernel_rfl) (by kernel_rfl) (fun _ _ _ h => h) (Or.inl ⟨by rfl, ?_⟩) ?_
                · rintro w ⟨⟨p0, p1, p2, p3, p4⟩, q0, q1, q2, q3, q4⟩
                  go_simp <;> (first | done | assumption | omega | (intro _; omega))
                try simp only [Act.put, List.setIfInBounds_toArray, List.set_cons_zero, List.set_cons_succ]
                refine wpAnyH_done (by kernel_rfl) ?_ _
                cases Z with
                | true =>
                  have HT2 := hide (take_both HX1.out HX2.out HT.out (HZ.out.1 rfl))
                  go_wp2_with fail
                  go_roundw
                  case rel => exact ⟨k + 1, by omega, by go_num, HT2, hide (below_next HW.out BB3.out)⟩
                  case measure => simp [intOf]; omega
                | false =>
                  have HX := hide (show false = true ↔ es = fs from ⟨fun e => Bool.noConfusion e, fun e => absurd e (ne_atN HX1.out HX2.out (fun e9 => by have := HZ.out.2 e9; cases this))⟩)
                  go_wp2_with fail
                  go_ret
                  exact ⟨_, rfl, HX.out, below_next HW.out BB3.out⟩
              · have hlb : (s.lease == t.lease) = false := by simp [hle]
                have HX := hide (show false = true ↔ es = fs from ⟨fun e => Bool.noConfusion e, fun e => absurd e (ne_atN HX1.out HX2.out (fun e9 => hle (by rw [e9])))⟩)
                go_wp2_with fail
                clear p0 p1 p2 p3 p4 q0 q1 q2 q3 q4
                refine wp_region_held_drew (S := fun u : World => (u.cell? ⟨b1, o1 + k * 5, none⟩ = some (.string (str s.name)) ∧ u.cell? ⟨b1, o1 + k * 5 + 1, none⟩ = some (.string (str s.parent)) ∧ u.cell? ⟨b1, o1 + k * 5 + 2, none⟩ = some (.int .i64 s.kind) ∧ u.cell? ⟨b1, o1 + k * 5 + 3, none⟩ = some (.bool s.lease) ∧ u.cell? ⟨b1, o1 + k * 5 + 4, none⟩ = some (.slice x s.layer.length cc)) ∧ (u.cell? ⟨b2, o2 + k * 5, none⟩ = some (.string (str t.name)) ∧ u.cell? ⟨b2, o2 + k * 5 + 1, none⟩ = some (.string (str t.parent)) ∧ u.cell? ⟨b2, o2 + k * 5 + 2, none⟩ = some (.int .i64 t.kind) ∧ u.cell? ⟨b2, o2 + k * 5 + 3, none⟩ = some (.bool t.lease) ∧ u.cell? ⟨b2, o2 + k * 5 + 4, none⟩ = some (.slice y t.layer.length dd))) (by kernel_rfl) (KC.out _ (Below.refl _ _).drew) (fun hHeld => ?_)
                change wpAnyH _ _ _ _ _ _ (Array.replicate _ false) _ _
                refine tk 0 17 (.slice (some ⟨b1, o1, none⟩) es.length c) hHeld rfl (by kernel_rfl) (by kernel_rfl) (by kernel_rfl) (fun _ _ _ h => h) (Or.inl ⟨by rfl, ?_⟩) ?_
                · rintro w ⟨⟨p0, p1, p2, p3, p4⟩, q0, q1, q2, q3, q4⟩
                  go_simp <;> (first | done | assumption | omega | (intro _; omega))
                try simp only [Act.put, List.setIfInBounds_toArray, List.set_cons_zero, List.set_cons_succ]
                refine tk 1 18 (.int .i64 k) hHeld rfl (by kernel_rfl) (by kernel_rfl) (by kernel_rfl) (fun _ _ _ h => h) (Or.inl ⟨by rfl, ?_⟩) ?_
                · rintro w ⟨⟨p0, p1, p2, p3, p4⟩, q0, q1, q2, q3, q4⟩
                  go_simp <;> (first | done | assumption | omega | (intro _; omega))
                try simp only [Act.put, List.setIfInBounds_toArray, List.set_cons_zero, List.set_cons_succ]
                refine tk 2 19 (.pointer (some ⟨b1, o1 + k * 5, none⟩)) hHeld rfl (by kernel_rfl) (by kernel_rfl) (by kernel_rfl) (fun _ _ _ h => h) (Or.inl ⟨by rfl, ?_⟩) ?_
                · rintro w ⟨⟨p0, p1, p2, p3, p4⟩, q0, q1, q2, q3, q4⟩
                  go_simp <;> (first | done | assumption | omega | (intro _; omega))
                try simp only [Act.put, List.setIfInBounds_toArray, List.set_cons_zero, List.set_cons_succ]
                refine tk 3 20 (.pointer (some ⟨b1, o1 + k * 5, none⟩)) hHeld rfl (by kernel_rfl) (by kernel_rfl) (by kernel_rfl) (fun _ _ _ h => h) (Or.inl ⟨by rfl, ?_⟩) ?_
                · rintro w ⟨⟨p0, p1, p2, p3, p4⟩, q0, q1, q2, q3, q4⟩
                  go_simp <;> (first | done | assumption | omega | (intro _; omega))
                try simp only [Act.put, List.setIfInBounds_toArray, List.set_cons_zero, List.set_cons_succ]
                refine tk 4 21 (.string (str s.name)) hHeld rfl (by kernel_rfl) (by kernel_rfl) (by kernel_rfl) (fun _ _ _ h => h) (Or.inl ⟨by rfl, ?_⟩) ?_
                · rintro w ⟨⟨p0, p1, p2, p3, p4⟩, q0, q1, q2, q3, q4⟩
                  go_simp <;> (first | done | assumption | omega | (intro _; omega))
                try simp only [Act.put, List.setIfInBounds_toArray, List.set_cons_zero, List.set_cons_succ]
                refine tk 5 22 (.slice (some ⟨b2, o2, none⟩) fs.length d) hHeld rfl (by kernel_rfl) (by kernel_rfl) (by kernel_rfl) (fun _ _ _ h => h) (Or.inl ⟨by rfl, ?_⟩) ?_
                · rintro w ⟨⟨p0, p1, p2, p3, p4⟩, q0, q1, q2, q3, q4⟩
                  go_simp <;> (first | done | assumption | omega | (intro _; omega))
                try simp only [Act.put, List.setIfInBounds_toArray, List.set_cons_zero, List.set_cons_succ]
                refine tk 6 23 (.int .i64 k) hHeld rfl (by kernel_rfl) (by kernel_rfl) (by kernel_rfl) (fun _ _ _ h => h) (Or.inl ⟨by rfl, ?_⟩) ?_
                · rintro w ⟨⟨p0, p1, p2, p3, p4⟩, q0, q1, q2, q3, q4⟩
                  go_simp <;> (first | done | assumption | omega | (intro _; omega))
                try simp only [Act.put, List.setIfInBounds_toArray, List.set_cons_zero, List.set_cons_succ]
                refine tk 7 24 (.pointer (some ⟨b2, o2 + k * 5, none⟩)) hHeld rfl (by kernel_rfl) (by kernel_rfl) (by kernel_rfl) (fun _ _ _ h => h) (Or.inl ⟨by rfl, ?_⟩) ?_
                · rintro w ⟨⟨p0, p1, p2, p3, p4⟩, q0, q1, q2, q3, q4⟩
                  go_simp <;> (first | done | assumption | omega | (intro _; omega))
                try simp only [Act.put, List.setIfInBounds_toArray, List.set_cons_zero, List.set_cons_succ]
                refine tk 8 25 (.pointer (some ⟨b2, o2 + k * 5, none⟩)) hHeld rfl (by kernel_rfl) (by kernel_rfl) (by kernel_rfl) (fun _ _ _ h => h) (Or.inl ⟨by rfl, ?_⟩) ?_
                · rintro w ⟨⟨p0, p1, p2, p3, p4⟩, q0, q1, q2, q3, q4⟩
                  go_simp <;> (first | done | assumption | omega | (intro _; omega))
                try simp only [Act.put, List.setIfInBounds_toArray, List.set_cons_zero, List.set_cons_succ]
                refine tk 9 26 (.string (str t.name)) hHeld rfl (by kernel_rfl) (by kernel_rfl) (by kernel_rfl) (fun _ _ _ h => h) (Or.inl ⟨by rfl, ?_⟩) ?_
                · rintro w ⟨⟨p0, p1, p2, p3, p4⟩, q0, q1, q2, q3, q4⟩
                  go_simp <;> (first | done | assumption | omega | (intro _; omega))
                try simp only [Act.put, List.setIfInBounds_toArray, List.set_cons_zero, List.set_cons_succ]
                refine tk 10 27 (.bool false) hHeld rfl (by kernel_rfl) (by kernel_rfl) (by kernel_rfl) (fun _ _ _ h => h) (Or.inl ⟨by rfl, ?_⟩) ?_
                · rintro w ⟨⟨p0, p1, p2, p3, p4⟩, q0, q1, q2, q3, q4⟩
                  go_simp <;> (first | done | assumption | omega | (intro _; omega))
                try simp only [Act.put, List.setIfInBounds_toArray, List.set_cons_zero, List.set_cons_succ]
                refine tk 11 28 (.bool false) hHeld rfl (by kernel_rfl) (by kernel_rfl) (by kernel_rfl) (fun _ _ _ h => h) (Or.inl ⟨by rfl, ?_⟩) ?_
                · rintro w ⟨⟨p0, p1, p2, p3, p4⟩, q0, q1, q2, q3, q4⟩
                  go_simp <;> (first | done | assumption | omega | (intro _; omega))
                try simp only [Act.put, List.setIfInBounds_toArray, List.set_cons_zero, List.set_cons_succ]
                refine tk 12 29 (.slice (some ⟨b1, o1, none⟩) es.length c) hHeld rfl (by kernel_rfl) (by kernel_rfl) (by kernel_rfl) (fun _ _ _ h => h) (Or.inl ⟨by rfl, ?_⟩) ?_
                · rintro w ⟨⟨p0, p1, p2, p3, p4⟩, q0, q1, q2, q3, q4⟩
                  go_simp <;> (first | done | assumption | omega | (intro _; omega))
                try simp only [Act.put, List.setIfInBounds_toArray, List.set_cons_zero, List.set_cons_succ]
                refine tk 13 30 (.int .i64 k) hHeld rfl (by kernel_rfl) (by kernel_rfl) (by kernel_rfl) (fun _ _ _ h => h) (Or.inl ⟨by rfl, ?_⟩) ?_
                · rintro w ⟨⟨p0, p1, p2, p3, p4⟩, q0, q1, q2, q3, q4⟩
                  go_simp <;> (first | done | assumption | omega | (intro _; omega))
                try simp only [Act.put, List.setIfInBounds_toArray, List.set_cons_zero, List.set_cons_succ]
                refine tk 14 31 (.pointer (some ⟨b1, o1 + k * 5, none⟩)) hHeld rfl (by kernel_rfl) (by kernel_rfl) (by kernel_rfl) (fun _ _ _ h => h) (Or.inl ⟨by rfl, ?_⟩) ?_
                · rintro w ⟨⟨p0, p1, p2, p3, p4⟩, q0, q1, q2, q3, q4⟩
                  go_simp <;> (first | done | assumption | omega | (intro _; omega))
                try simp only [Act.put, List.setIfInBounds_toArray, List.set_cons_zero, List.set_cons_succ]
                refine tk 15 32 (.pointer (some ⟨b1, o1 + k * 5 + 1, none⟩)) hHeld rfl (by kernel_rfl) (by kernel_rfl) (by kernel_rfl) (fun _ _ _ h => h) (Or.inl ⟨by rfl, ?_⟩) ?_
                · rintro w ⟨⟨p0, p1, p2, p3, p4⟩, q0, q1, q2, q3, q4⟩
                  go_simp <;> (first | done | assumption | omega | (intro _; omega))
                try simp only [Act.put, List.setIfInBounds_toArray, List.set_cons_zero, List.set_cons_succ]
                refine tk 16 33 (.string (str s.parent)) hHeld rfl (by kernel_rfl) (by kernel_rfl) (by kernel_rfl) (fun _ _ _ h => h) (Or.inl ⟨by rfl, ?_⟩) ?_
                · rintro w ⟨⟨p0, p1, p2, p3, p4⟩, q0, q1, q2, q3, q4⟩
                  go_simp <;> (first | done | assumption | omega | (intro _; omega))
                try simp only [Act.put, List.setIfInBounds_toArray, List.set_cons_zero, List.set_cons_succ]
                refine tk 17 34 (.slice (some ⟨b2, o2, none⟩) fs.length d) hHeld rfl (by kernel_rfl) (by kernel_rfl) (by kernel_rfl) (fun _ _ _ h => h) (Or.inl ⟨by rfl, ?_⟩) ?_
                · rintro w ⟨⟨p0, p1, p2, p3, p4⟩, q0, q1, q2, q3, q4⟩
                  go_simp <;> (first | done | assumption | omega | (intro _; omega))
                try simp only [Act.put, List.setIfInBounds_toArray, List.set_cons_zero, List.set_cons_succ]
                refine tk 18 35 (.int .i64 k) hHeld rfl (by kernel_rfl) (by kernel_rfl) (by kernel_rfl) (fun _ _ _ h => h) (Or.inl ⟨by rfl, ?_⟩) ?_
                · rintro w ⟨⟨p0, p1, p2, p3, p4⟩, q0, q1, q2, q3, q4⟩
                  go_simp <;> (first | done | assumption | omega | (intro _; omega))
                try simp only [Act.put, List.setIfInBounds_toArray, List.set_cons_zero, List.set_cons_succ]
                refine tk 19 36 (.pointer (some ⟨b2, o2 + k * 5, none⟩)) hHeld rfl (by kernel_rfl) (by kernel_rfl) (by kernel_rfl) (fun _ _ _ h => h) (Or.inl ⟨by rfl, ?_⟩) ?_
                · rintro w ⟨⟨p0, p1, p2, p3, p4⟩, q0, q1, q2, q3, q4⟩
                  go_simp <;> (first | done | assumption | omega | (intro _; omega))
                try simp only [Act.put, List.setIfInBounds_toArray, List.set_cons_zero, List.set_cons_succ]
                refine tk 20 37 (.pointer (some ⟨b2, o2 + k * 5 + 1, none⟩)) hHeld rfl (by kernel_rfl) (by kernel_rfl) (by kernel_rfl) (fun _ _ _ h => h) (Or.inl ⟨by rfl, ?_⟩) ?_
                · rintro w ⟨⟨p0, p1, p2, p3, p4⟩, q0, q1, q2, q3, q4⟩
                  go_simp <;> (first | done | assumption | omega | (intro _; omega))
                try simp only [Act.put, List.setIfInBounds_toArray, List.set_cons_zero, List.set_cons_succ]
                refine tk 21 38 (.string (str t.parent)) hHeld rfl (by kernel_rfl) (by kernel_rfl) (by kernel_rfl) (fun _ _ _ h => h) (Or.inl ⟨by rfl, ?_⟩) ?_
                · rintro w ⟨⟨p0, p1, p2, p3, p4⟩, q0, q1, q2, q3, q4⟩
                  go_simp <;> (first | done | assumption | omega | (intro _; omega))
                try simp only [Act.put, List.setIfInBounds_toArray, List.set_cons_zero, List.set_cons_succ]
                refine tk 22 39 (.bool false) hHeld rfl (by kernel_rfl) (by kernel_rfl) (by kernel_rfl) (fun _ _ _ h => h) (Or.inl ⟨by rfl, ?_⟩) ?_
                · rintro w ⟨⟨p0, p1, p2, p3, p4⟩, q0, q1, q2, q3, q4⟩
                  go_simp <;> (first | done | assumption | omega | (intro _; omega))
                try simp only [Act.put, List.setIfInBounds_toArray, List.set_cons_zero, List.set_cons_succ]
                refine tk 23 40 (.bool false) hHeld rfl (by kernel_rfl) (by kernel_rfl) (by kernel_rfl) (fun _ _ _ h => h) (Or.inl ⟨by rfl, ?_⟩) ?_
                · rintro w ⟨⟨p0, p1, p2, p3, p4⟩, q0, q1, q2, q3, q4⟩
                  go_simp <;> (first | done | assumption | omega | (intro _; omega))
                try simp only [Act.put, List.setIfInBounds_toArray, List.set_cons_zero, List.set_cons_succ]
                refine tk 24 41 (.bool false) hHeld rfl (by kernel_rfl) (by kernel_rfl) (by kernel_rfl) (fun _ _ _ h => h) (Or.inl ⟨by rfl, ?_⟩) ?_
                · rintro w ⟨⟨p0, p1, p2, p3, p4⟩, q0, q1, q2, q3, q4⟩
                  go_simp <;> (first | done | assumption | omega | (intro _; omega))
                try simp only [Act.put, List.setIfInBounds_toArray, List.set_cons_zero, List.set_cons_succ]
                refine tk 25 42 (.slice (some ⟨b1, o1, none⟩) es.length c) hHeld rfl (by kernel_rfl) (by kernel_rfl) (by kernel_rfl) (fun _ _ _ h => h) (Or.inl ⟨by rfl, ?_⟩) ?_
                · rintro w ⟨⟨p0, p1, p2, p3, p4⟩, q0, q1, q2, q3, q4⟩
                  go_simp <;> (first | done | assumption | omega | (intro _; omega))
                try simp only [Act.put, List.setIfInBounds_toArray, List.set_cons_zero, List.set_cons_succ]
                refine tk 26 43 (.int .i64 k) hHeld rfl (by kernel_rfl) (by kernel_rfl) (by kernel_rfl) (fun _ _ _ h => h) (Or.inl ⟨by rfl, ?_⟩) ?_
                · rintro w ⟨⟨p0, p1, p2, p3, p4⟩, q0, q1, q2, q3, q4⟩
                  go_simp <;> (first | done | assumption | omega | (intro _; omega))
                try simp only [Act.put, List.setIfInBounds_toArray, List.set_cons_zero, List.set_cons_succ]
                refine tk 27 44 (.pointer (some ⟨b1, o1 + k * 5, none⟩)) hHeld rfl (by kernel_rfl) (by kernel_rfl) (by kernel_rfl) (fun _ _ _ h => h) (Or.inl ⟨by rfl, ?_⟩) ?_
                · rintro w ⟨⟨p0, p1, p2, p3, p4⟩, q0, q1, q2, q3, q4⟩
                  go_simp <;> (first | done | assumption | omega | (intro _; omega))
                try simp only [Act.put, List.setIfInBounds_toArray, List.set_cons_zero, List.set_cons_succ]
                refine tk 28 45 (.pointer (some ⟨b1, o1 + k * 5 + 2, none⟩)) hHeld rfl (by kernel_rfl) (by kernel_rfl) (by kernel_rfl) (fun _ _ _ h => h) (Or.inl ⟨by rfl, ?_⟩) ?_
                · rintro w ⟨⟨p0, p1, p2, p3, p4⟩, q0, q1, q2, q3, q4⟩
                  go_simp <;> (first | done | assumption | omega | (intro _; omega))
                try simp only [Act.put, List.setIfInBounds_toArray, List.set_cons_zero, List.set_cons_succ]
                refine tk 29 46 (.int .i64 s.kind) hHeld rfl (by kernel_rfl) (by kernel_rfl) (by kernel_rfl) (fun _ _ _ h => h) (Or.inl ⟨by rfl, ?_⟩) ?_
                · rintro w ⟨⟨p0, p1, p2, p3, p4⟩, q0, q1, q2, q3, q4⟩
                  go_simp <;> (first | done | assumption | omega | (intro _; omega))
                try simp only [Act.put, List.setIfInBounds_toArray, List.set_cons_zero, List.set_cons_succ]
                refine tk 30 47 (.slice (some ⟨b2, o2, none⟩) fs.length d) hHeld rfl (by kernel_rfl) (by kernel_rfl) (by kernel_rfl) (fun _ _ _ h => h) (Or.inl ⟨by rfl, ?_⟩) ?_
                · rintro w ⟨⟨p0, p1, p2, p3, p4⟩, q0, q1, q2, q3, q4⟩
                  go_simp <;> (first | done | assumption | omega | (intro _; omega))
                try simp only [Act.put, List.setIfInBounds_toArray, List.set_cons_zero, List.set_cons_succ]
                refine tk 31 48 (.int .i64 k) hHeld rfl (by kernel_rfl) (by kernel_rfl) (by kernel_rfl) (fun _ _ _ h => h) (Or.inl ⟨by rfl, ?_⟩) ?_
                · rintro w ⟨⟨p0, p1, p2, p3, p4⟩, q0, q1, q2, q3, q4⟩
                  go_simp <;> (first | done | assumption | omega | (intro _; omega))
                try simp only [Act.put, List.setIfInBounds_toArray, List.set_cons_zero, List.set_cons_succ]
                refine tk 32 49 (.pointer (some ⟨b2, o2 + k * 5, none⟩)) hHeld rfl (by kernel_rfl) (by kernel_rfl) (by kernel_rfl) (fun _ _ _ h => h) (Or.inl ⟨by rfl, ?_⟩) ?_
                · rintro w ⟨⟨p0, p1, p2, p3, p4⟩, q0, q1, q2, q3, q4⟩
                  go_simp <;> (first | done | assumption | omega | (intro _; omega))
                try simp only [Act.put, List.setIfInBounds_toArray, List.set_cons_zero, List.set_cons_succ]
                refine tk 33 50 (.pointer (some ⟨b2, o2 + k * 5 + 2, none⟩)) hHeld rfl (by kernel_rfl) (by kernel_rfl) (by kernel_rfl) (fun _ _ _ h => h) (Or.inl ⟨by rfl, ?_⟩) ?_
                · rintro w ⟨⟨p0, p1, p2, p3, p4⟩, q0, q1, q2, q3, q4⟩
                  go_simp <;> (first | done | assumption | omega | (intro _; omega))
                try simp only [Act.put, List.setIfInBounds_toArray, List.set_cons_zero, List.set_cons_succ]
                refine tk 34 51 (.int .i64 t.kind) hHeld rfl (by kernel_rfl) (by kernel_rfl) (by kernel_rfl) (fun _ _ _ h => h) (Or.inl ⟨by rfl, ?_⟩) ?_
                · rintro w ⟨⟨p0, p1, p2, p3, p4⟩, q0, q1, q2, q3, q4⟩
                  go_simp <;> (first | done | assumption | omega | (intro _; omega))
                try simp only [Act.put, List.setIfInBounds_toArray, List.set_cons_zero, List.set_cons_succ]
                refine tk 35 52 (.bool false) hHeld rfl (by kernel_rfl) (by kernel_rfl) (by kernel_rfl) (fun _ _ _ h => h) (Or.inl ⟨by rfl, ?_⟩) ?_
                · rintro w ⟨⟨p0, p1, p2, p3, p4⟩, q0, q1, q2, q3, q4⟩
                  go_simp <;> (first | done | assumption | omega | (intro _; omega))
                try simp only [Act.put, List.setIfInBounds_toArray, List.set_cons_zero, List.set_cons_succ]
                refine tk 36 53 (.bool false) hHeld rfl (by kernel_rfl) (by kernel_rfl) (by kernel_rfl) (fun _ _ _ h => h) (Or.inl ⟨by rfl, ?_⟩) ?_
                · rintro w ⟨⟨p0, p1, p2, p3, p4⟩, q0, q1, q2, q3, q4⟩
                  go_simp <;> (first | done | assumption | omega | (intro _; omega))
                try simp only [Act.put, List.setIfInBounds_toArray, List.set_cons_zero, List.set_cons_succ]
                refine tk 37 54 (.bool false) hHeld rfl (by kernel_rfl) (by kernel_rfl) (by kernel_rfl) (fun _ _ _ h => h) (Or.inl ⟨by rfl, ?_⟩) ?_
                · rintro w ⟨⟨p0, p1, p2, p3, p4⟩, q0, q1, q2, q3, q4⟩
                  go_simp <;> (first | done | assumption | omega | (intro _; omega))
                try simp only [Act.put, List.setIfInBounds_toArray, List.set_cons_zero, List.set_cons_succ]
                refine tk 38 55 (.slice (some ⟨b1, o1, none⟩) es.length c) hHeld rfl (by kernel_rfl) (by kernel_rfl) (by kernel_rfl) (fun _ _ _ h => h) (Or.inl ⟨by rfl, ?_⟩) ?_
                · rintro w ⟨⟨p0, p1, p2, p3, p4⟩, q0, q1, q2, q3, q4⟩
                  go_simp <;> (first | done | assumption | omega | (intro _; omega))
                try simp only [Act.put, List.setIfInBounds_toArray, List.set_cons_zero, List.set_cons_succ]
                refine tk 39 56 (.int .i64 k) hHeld rfl (by kernel_rfl) (by kernel_rfl) (by kernel_rfl) (fun _ _ _ h => h) (Or.inl ⟨by rfl, ?_⟩) ?_
                · rintro w ⟨⟨p0, p1, p2, p3, p4⟩, q0, q1, q2, q3, q4⟩
                  go_simp <;> (first | done | assumption | omega | (intro _; omega))
                try simp only [Act.put, List.setIfInBounds_toArray, List.set_cons_zero, List.set_cons_succ]
                refine tk 40 57 (.pointer (some ⟨b1, o1 + k * 5, none⟩)) hHeld rfl (by kernel_rfl) (by kernel_rfl) (by kernel_rfl) (fun _ _ _ h => h) (Or.inl ⟨by rfl, ?_⟩) ?_
                · rintro w ⟨⟨p0, p1, p2, p3, p4⟩, q0, q1, q2, q3, q4⟩
                  go_simp <;> (first | done | assumption | omega | (intro _; omega))
                try simp only [Act.put, List.setIfInBounds_toArray, List.set_cons_zero, List.set_cons_succ]
                refine tk 41 58 (.pointer (some ⟨b1, o1 + k * 5 + 3, none⟩)) hHeld rfl (by kernel_rfl) (by kernel_rfl) (by kernel_rfl) (fun _ _ _ h => h) (Or.inl ⟨by rfl, ?_⟩) ?_
                · rintro w ⟨⟨p0, p1, p2, p3, p4⟩, q0, q1, q2, q3, q4⟩
                  go_simp <;> (first | done | assumption | omega | (intro _; omega))
                try simp only [Act.put, List.setIfInBounds_toArray, List.set_cons_zero, List.set_cons_succ]
                refine tk 42 59 (.bool s.lease) hHeld rfl (by kernel_rfl) (by kernel_rfl) (by kernel_rfl) (fun _ _ _ h => h) (Or.inl ⟨by rfl, ?_⟩) ?_
                · rintro w ⟨⟨p0, p1, p2, p3, p4⟩, q0, q1, q2, q3, q4⟩
                  go_simp <;> (first | done | assumption | omega | (intro _; omega))
                try simp only [Act.put, List.setIfInBounds_toArray, List.set_cons_zero, List.set_cons_succ]
                refine tk 43 60 (.slice (some ⟨b2, o2, none⟩) fs.length d) hHeld rfl (by kernel_rfl) (by kernel_rfl) (by kernel_rfl) (fun _ _ _ h => h) (Or.inl ⟨by rfl, ?_⟩) ?_
                · rintro w ⟨⟨p0, p1, p2, p3, p4⟩, q0, q1, q2, q3, q4⟩
                  go_simp <;> (first | done | assumption | omega | (intro _; omega))
                try simp only [Act.put, List.setIfInBounds_toArray, List.set_cons_zero, List.set_cons_succ]
                refine tk 44 61 (.int .i64 k) hHeld rfl (by kernel_rfl) (by kernel_rfl) (by kernel_rfl) (fun _ _ _ h => h) (Or.inl ⟨by rfl, ?_⟩) ?_
                · rintro w ⟨⟨p0, p1, p2, p3, p4⟩, q0, q1, q2, q3, q4⟩
                  go_simp <;> (first | done | assumption | omega | (intro _; omega))
                try simp only [Act.put, List.setIfInBounds_toArray, List.set_cons_zero, List.set_cons_succ]
                refine tk 45 62 (.pointer (some ⟨b2, o2 + k * 5, none⟩)) hHeld rfl (by kernel_rfl) (by kernel_rfl) (by kernel_rfl) (fun _ _ _ h => h) (Or.inl ⟨by rfl, ?_⟩) ?_
                · rintro w ⟨⟨p0, p1, p2, p3, p4⟩, q0, q1, q2, q3, q4⟩
                  go_simp <;> (first | done | assumption | omega | (intro _; omega))
                try simp only [Act.put, List.setIfInBounds_toArray, List.set_cons_zero, List.set_cons_succ]
                refine tk 46 63 (.pointer (some ⟨b2, o2 + k * 5 + 3, none⟩)) hHeld rfl (by kernel_rfl) (by kernel_rfl) (by kernel_rfl) (fun _ _ _ h => h) (Or.inl ⟨by rfl, ?_⟩) ?_
                · rintro w ⟨⟨p0, p1, p2, p3, p4⟩, q0, q1, q2, q3, q4⟩
                  go_simp <;> (first | done | assumption | omega | (intro _; omega))
                try simp only [Act.put, List.setIfInBounds_toArray, List.set_cons_zero, List.set_cons_succ]
                refine tk 47 64 (.bool t.lease) hHeld rfl (by kernel_rfl) (by kernel_rfl) (by kernel_rfl) (fun _ _ _ h => h) (Or.inl ⟨by rfl, ?_⟩) ?_
                · rintro w ⟨⟨p0, p1, p2, p3, p4⟩, q0, q1, q2, q3, q4⟩
                  go_simp <;> (first | done | assumption | omega | (intro _; omega))
                try simp only [Act.put, List.setIfInBounds_toArray, List.set_cons_zero, List.set_cons_succ]
                refine tk 48 65 (.bool true) hHeld rfl (by kernel_rfl) (by kernel_rfl) (by kernel_rfl) (fun _ _ _ h => h) (Or.inl ⟨by rfl, ?_⟩) ?_
                · rintro w ⟨⟨p0, p1, p2, p3, p4⟩, q0, q1, q2, q3, q4⟩
                  go_simp <;> (first | done | assumption | omega | (intro _; omega))
                try simp only [Act.put, List.setIfInBounds_toArray, List.set_cons_zero, List.set_cons_succ]
                refine tk 49 66 (.bool true) hHeld rfl (by kernel_rfl) (by kernel_rfl) (by kernel_rfl) (fun _ _ _ h => h) (Or.inl ⟨by rfl, ?_⟩) ?_
                · rintro w ⟨⟨p0, p1, p2, p3, p4⟩, q0, q1, q2, q3, q4⟩
                  go_simp <;> (first | done | assumption | omega | (intro _; omega))
                try simp only [Act.put, List.setIfInBounds_toArray, List.set_cons_zero, List.set_cons_succ]
                refine tk 50 67 (.bool true) hHeld rfl (by kernel_rfl) (by kernel_rfl) (by kernel_rfl) (fun _ _ _ h => h) (Or.inl ⟨by rfl, ?_⟩) ?_
                · rintro w ⟨⟨p0, p1, p2, p3, p4⟩, q0, q1, q2, q3, q4⟩
                  go_simp <;> (first | done | assumption | omega | (intro _; omega))
                try simp only [Act.put, List.setIfInBounds_toArray, List.set_cons_zero, List.set_cons_succ]
                refine tk 51 68 undef hHeld rfl (by kernel_rfl) (by kernel_rfl) (by kernel_rfl) (fun _ _ _ h => h) (Or.inr ⟨by rfl, rfl⟩) ?_
                try simp only [Act.put, List.setIfInBounds_toArray, List.set_cons_zero, List.set_cons_succ]
                refine tk 52 69 undef hHeld rfl (by kernel_rfl) (by kernel_rfl) (by kernel_rfl) (fun _ _ _ h => h) (Or.inr ⟨by rfl, rfl⟩) ?_
                try simp only [Act.put, List.setIfInBounds_toArray, List.set_cons_zero, List.set_cons_succ]
                refine tk 53 70 undef hHeld rfl (by kernel_rfl) (by kernel_rfl) (by kernel_rfl) (fun _ _ _ h => h) (Or.inr ⟨by rfl, rfl⟩) ?_
                try simp only [Act.put, List.setIfInBounds_toArray, List.set_cons_zero, List.set_cons_succ]
                refine tk 54 71 undef hHeld rfl (by kernel_rfl) (by kernel_rfl) (by kernel_rfl) (fun _ _ _ h => h) (Or.inr ⟨by rfl, rfl⟩) ?_
                try simp only [Act.put, List.setIfInBounds_toArray, List.set_cons_zero, List.set_cons_succ]
                refine tk 55 72 undef hHeld rfl (by kernel_rfl) (by kernel_rfl) (by kernel_rfl) (fun _ _ _ h => h) (Or.inr ⟨by rfl, rfl⟩) ?_
                try simp only [Act.put, List.setIfInBounds_toArray, List.set_cons_zero, List.set_cons_succ]
                refine tk 56 73 undef hHeld rfl (by kernel_rfl) (by kernel_rfl) (by kernel_rfl) (fun _ _ _ h => h) (Or.inr ⟨by rfl, rfl⟩) ?_
                try simp only [Act.put, List.setIfInBounds_toArray, List.set_cons_zero, List.set_cons_succ]
                refine tk 57 74 undef hHeld rfl (by kernel_rfl) (by kernel_rfl) (by kernel_rfl) (fun _ _ _ h => h) (Or.inr ⟨by rfl, rfl⟩) ?_
                try simp only [Act.put, List.setIfInBounds_toArray, List.set_cons_zero, List.set_cons_succ]
                refine tk 58 75 undef hHeld rfl (by kernel_rfl) (by kernel_rfl) (by kernel_rfl) (fun _ _ _ h => h) (Or.inr ⟨by rfl, rfl⟩) ?_
                try simp only [Act.put, List.setIfInBounds_toArray, List.set_cons_zero, List.set_cons_succ]
                refine tk 59 76 undef hHeld rfl (by kernel_rfl) (by kernel_rfl) (by kernel_rfl) (fun _ _ _ h => h) (Or.inr ⟨by rfl, rfl⟩) ?_
                try simp only [Act.put, List.setIfInBounds_toArray, List.set_cons_zero, List.set_cons_succ]
                refine tk 60 77 undef hHeld rfl (by kernel_rfl) (by kernel_rfl) (by kernel_rfl) (fun _ _ _ h => h) (Or.inr ⟨by rfl, rfl⟩) ?_
                try simp only [Act.put, List.setIfInBounds_toArray, List.set_cons_zero, List.set_cons_succ]
                refine tk 61 78 undef hHeld rfl (by kernel_rfl) (by kernel_rfl) (by kernel_rfl) (fun _ _ _ h => h) (Or.inr ⟨by rfl, rfl⟩) ?_
                try simp only [Act.put, List.setIfInBounds_toArray, List.set_cons_zero, List.set_cons_succ]
                refine tk 62 79 undef hHeld rfl (by kernel_rfl) (by kernel_rfl) (by kernel_rfl) (fun _ _ _ h => h) (Or.inr ⟨by rfl, rfl⟩) ?_
                try simp only [Act.put, List.setIfInBounds_toArray, List.set_cons_zero, List.set_cons_succ]
                refine tk 63 80 (.bool true) hHeld rfl (by kernel_rfl) (by kernel_rfl) (by kernel_rfl) (fun _ _ _ h => h) (Or.inl ⟨by rfl, ?_⟩) ?_
                · rintro w ⟨⟨p0, p1, p2, p3, p4⟩, q0, q1, q2, q3, q4⟩
                  go_simp <;> (first | done | assumption | omega | (intro _; omega))
                try simp only [Act.put, List.setIfInBounds_toArray, List.set_cons_zero, List.set_cons_succ]
                refine wpAnyH_done (by kernel_rfl) ?_ _
                go_wp2_with fail
                go_ret
                exact ⟨_, rfl, HX.out, below_next HW.out (Below.refl _ _).drew⟩
            · have hkb : (s.kind == t.kind) = false := by simp [hki]
              have HX := hide (show false = true ↔ es = fs from ⟨fun e => Bool.noConfusion e, fun e => absurd e (ne_atN HX1.out HX2.out (fun e9 => hki (by rw [e9])))⟩)
              go_wp2_with fail
              clear p0 p1 p2 p3 p4 q0 q1 q2 q3 q4
              refine wp_region_held_drew (S := fun u : World => (u.cell? ⟨b1, o1 + k * 5, none⟩ = some (.string (str s.name)) ∧ u.cell? ⟨b1, o1 + k * 5 + 1, none⟩ = some (.string (str s.parent)) ∧ u.cell? ⟨b1, o1 + k * 5 + 2, none⟩ = some (.int .i64 s.kind) ∧ u.cell? ⟨b1, o1 + k * 5 + 3, none⟩ = some (.bool s.lease) ∧ u.cell? ⟨b1, o1 + k * 5 + 4, none⟩ = some (.slice x s.layer.length cc)) ∧ (u.cell? ⟨b2, o2 + k * 5, none⟩ = some (.string (str t.name)) ∧ u.cell? ⟨b2, o2 + k * 5 + 1, none⟩ = some (.string (str t.parent)) ∧ u.cell? ⟨b2, o2 + k * 5 + 2, none⟩ = some (.int .i64 t.kind) ∧ u.cell? ⟨b2, o2 + k * 5 + 3, none⟩ = some (.bool t.lease) ∧ u.cell? ⟨b2, o2 + k * 5 + 4, none⟩ = some (.slice y t.layer.length dd))) (by kernel_rfl) (KC.out _ (Below.refl _ _).drew) (fun hHeld => ?_)
              change wpAnyH _ _ _ _ _ _ (Array.replicate _ false) _ _
              refine tk 0 17 (.slice (some ⟨b1, o1, none⟩) es.length c) hHeld rfl (by kernel_rfl) (by kernel_rfl) (by kernel_rfl) (fun _ _ _ h => h) (Or.inl ⟨by rfl, ?_⟩) ?_
              · rintro w ⟨⟨p0, p1, p2, p3, p4⟩, q0, q1, q2, q3, q4⟩
                go_simp <;> (first | done | assumption | omega | (intro _; omega))
              try simp only [Act.put, List.setIfInBounds_toArray, List.set_cons_zero, List.set_cons_succ]
              refine tk 1 18 (.int .i64 k) hHeld rfl (by kernel_rfl) (by kernel_rfl) (by kernel_rfl) (fun _ _ _ h => h) (Or.inl ⟨by rfl, ?_⟩) ?_
              · rintro w ⟨⟨p0, p1, p2, p3, p4⟩, q0, q1, q2, q3, q4⟩
                go_simp <;> (first | done | assumption | omega | (intro _; omega))
              try simp only [Act.put, List.setIfInBounds_toArray, List.set_cons_zero, List.set_cons_succ]
              refine tk 2 19 (.pointer (some ⟨b1, o1 + k * 5, none⟩)) hHeld rfl (by kernel_rfl) (by kernel_rfl) (by kernel_rfl) (fun _ _ _ h => h) (Or.inl ⟨by rfl, ?_⟩) ?_
              · rintro w ⟨⟨p0, p1, p2, p3, p4⟩, q0, q1, q2, q3, q4⟩
                go_simp <;> (first | done | assumption | omega | (intro _; omega))
              try simp only [Act.put, List.setIfInBounds_toArray, List.set_cons_zero, List.set_cons_succ]
              refine tk 3 20 (.pointer (some ⟨b1, o1 + k * 5, none⟩)) hHeld rfl (by kernel_rfl) (by kernel_rfl) (by kernel_rfl) (fun _ _ _ h => h) (Or.inl ⟨by rfl, ?_⟩) ?_
              · rintro w ⟨⟨p0, p1, p2, p3, p4⟩, q0, q1, q2, q3, q4⟩
                go_simp <;> (first | done | assumption | omega | (intro _; omega))
              try simp only [Act.put, List.setIfInBounds_toArray, List.set_cons_zero, List.set_cons_succ]
              refine tk 4 21 (.string (str s.name)) hHeld rfl (by kernel_rfl) (by kernel_rfl) (by kernel_rfl) (fun _ _ _ h => h) (Or.inl ⟨by rfl, ?_⟩) ?_
              · rintro w ⟨⟨p0, p1, p2, p3, p4⟩, q0, q1, q2, q3, q4⟩
                go_simp <;> (first | done | assumption | omega | (intro _; omega))
              try simp only [Act.put, List.setIfInBounds_toArray, List.set_cons_zero, List.set_cons_succ]
              refine tk 5 22 (.slice (some ⟨b2, o2, none⟩) fs.length d) hHeld rfl (by kernel_rfl) (by kernel_rfl) (by kernel_rfl) (fun _ _ _ h => h) (Or.inl ⟨by rfl, ?_⟩) ?_
              · rintro w ⟨⟨p0, p1, p2, p3, p4⟩, q0, q1, q2, q3, q4⟩
                go_simp <;> (first | done | assumption | omega | (intro _; omega))
              try simp only [Act.put, List.setIfInBounds_toArray, List.set_cons_zero, List.set_cons_succ]
              refine tk 6 23 (.int .i64 k) hHeld rfl (by kernel_rfl) (by kernel_rfl) (by kernel_rfl) (fun _ _ _ h => h) (Or.inl ⟨by rfl, ?_⟩) ?_
              · rintro w ⟨⟨p0, p1, p2, p3, p4⟩, q0, q1, q2, q3, q4⟩
                go_simp <;> (first | done | assumption | omega | (intro _; omega))
              try simp only [Act.put, List.setIfInBounds_toArray, List.set_cons_zero, List.set_cons_succ]
              refine tk 7 24 (.pointer (some ⟨b2, o2 + k * 5, none⟩)) hHeld rfl (by kernel_rfl) (by kernel_rfl) (by kernel_rfl) (fun _ _ _ h => h) (Or.inl ⟨by rfl, ?_⟩) ?_
              · rintro w ⟨⟨p0, p1, p2, p3, p4⟩, q0, q1, q2, q3, q4⟩
                go_simp <;> (first | done | assumption | omega | (intro _; omega))
              try simp only [Act.put, List.setIfInBounds_toArray, List.set_cons_zero, List.set_cons_succ]
              refine tk 8 25 (.pointer (some ⟨b2, o2 + k * 5, none⟩)) hHeld rfl (by kernel_rfl) (by kernel_rfl) (by kernel_rfl) (fun _ _ _ h => h) (Or.inl ⟨by rfl, ?_⟩) ?_
              · rintro w ⟨⟨p0, p1, p2, p3, p4⟩, q0, q1, q2, q3, q4⟩
                go_simp <;> (first | done | assumption | omega | (intro _; omega))
              try simp only [Act.put, List.setIfInBounds_toArray, List.set_cons_zero, List.set_cons_succ]
              refine tk 9 26 (.string (str t.name)) hHeld rfl (by kernel_rfl) (by kernel_rfl) (by kernel_rfl) (fun _ _ _ h => h) (Or.inl ⟨by rfl, ?_⟩) ?_
              · rintro w ⟨⟨p0, p1, p2, p3, p4⟩, q0, q1, q2, q3, q4⟩
                go_simp <;> (first | done | assumption | omega | (intro _; omega))
              try simp only [Act.put, List.setIfInBounds_toArray, List.set_cons_zero, List.set_cons_succ]
              refine tk 10 27 (.bool false) hHeld rfl (by kernel_rfl) (by kernel_rfl) (by kernel_rfl) (fun _ _ _ h => h) (Or.inl ⟨by rfl, ?_⟩) ?_
              · rintro w ⟨⟨p0, p1, p2, p3, p4⟩, q0, q1, q2, q3, q4⟩
                go_simp <;> (first | done | assumption | omega | (intro _; omega))
              try simp only [Act.put, List.setIfInBounds_toArray, List.set_cons_zero, List.set_cons_succ]
              refine tk 11 28 (.bool false) hHeld rfl (by kernel_rfl) (by kernel_rfl) (by kernel_rfl) (fun _ _ _ h => h) (Or.inl ⟨by rfl, ?_⟩) ?_
              · rintro w ⟨⟨p0, p1, p2, p3, p4⟩, q0, q1, q2, q3, q4⟩
                go_simp <;> (first | done | assumption | omega | (intro _; omega))
              try simp only [Act.put, List.setIfInBounds_toArray, List.set_cons_zero, List.set_cons_succ]
              refine tk 12 29 (.slice (some ⟨b1, o1, none⟩) es.length c) hHeld rfl (by kernel_rfl) (by kernel_rfl) (by kernel_rfl) (fun _ _ _ h => h) (Or.inl ⟨by rfl, ?_⟩) ?_
              · rintro w ⟨⟨p0, p1, p2, p3, p4⟩, q0, q1, q2, q3, q4⟩
                go_simp <;> (first | done | assumption | omega | (intro _; omega))
              try simp only [Act.put, List.setIfInBounds_toArray, List.set_cons_zero, List.set_cons_succ]
              refine tk 13 30 (.int .i64 k) hHeld rfl (by kernel_rfl) (by kernel_rfl) (by kernel_rfl) (fun _ _ _ h => h) (Or.inl ⟨by rfl, ?_⟩) ?_
              · rintro w ⟨⟨p0, p1, p2, p3, p4⟩, q0, q1, q2, q3, q4⟩
                go_simp <;> (first | done | assumption | omega | (intro _; omega))
              try simp only [Act.put, List.setIfInBounds_toArray, List.set_cons_zero, List.set_cons_succ]
              refine tk 14 31 (.pointer (some ⟨b1, o1 + k * 5, none⟩)) hHeld rfl (by kernel_rfl) (by kernel_rfl) (by kernel_rfl) (fun _ _ _ h => h) (Or.inl ⟨by rfl, ?_⟩) ?_
              · rintro w ⟨⟨p0, p1, p2, p3, p4⟩, q0, q1, q2, q3, q4⟩
                go_simp <;> (first | done | assumption | omega | (intro _; omega))
              try simp only [Act.put, List.setIfInBounds_toArray, List.set_cons_zero, List.set_cons_succ]
              refine tk 15 32 (.pointer (some ⟨b1, o1 + k * 5 + 1, none⟩)) hHeld rfl (by kernel_rfl) (by kernel_rfl) (by kernel_rfl) (fun _ _ _ h => h) (Or.inl ⟨by rfl, ?_⟩) ?_
              · rintro w ⟨⟨p0, p1, p2, p3, p4⟩, q0, q1, q2, q3, q4⟩
                go_simp <;> (first | done | assumption | omega | (intro _; omega))
              try simp only [Act.put, List.setIfInBounds_toArray, List.set_cons_zero, List.set_cons_succ]
              refine tk 16 33 (.string (str s.parent)) hHeld rfl (by kernel_rfl) (by kernel_rfl) (by kernel_rfl) (fun _ _ _ h => h) (Or.inl ⟨by rfl, ?_⟩) ?_
              · rintro w ⟨⟨p0, p1, p2, p3, p4⟩, q0, q1, q2, q3, q4⟩
                go_simp <;> (first | done | assumption | omega | (intro _; omega))
              try simp only [Act.put, List.setIfInBounds_toArray, List.set_cons_zero, List.set_cons_succ]
              refine tk 17 34 (.slice (some ⟨b2, o2, none⟩) fs.length d) hHeld rfl (by kernel_rfl) (by kernel_rfl) (by kernel_rfl) (fun _ _ _ h => h) (Or.inl ⟨by rfl, ?_⟩) ?_
              · rintro w ⟨⟨p0, p1, p2, p3, p4⟩, q0, q1, q2, q3, q4⟩
                go_simp <;> (first | done | assumption | omega | (intro _; omega))
              try simp only [Act.put, List.setIfInBounds_toArray, List.set_cons_zero, List.set_cons_succ]
              refine tk 18 35 (.int .i64 k) hHeld rfl (by kernel_rfl) (by kernel_rfl) (by kernel_rfl) (fun _ _ _ h => h) (Or.inl ⟨by rfl, ?_⟩) ?_
              · rintro w ⟨⟨p0, p1, p2, p3, p4⟩, q0, q1, q2, q3, q4⟩
                go_simp <;> (first | done | assumption | omega | (intro _; omega))
              try simp only [Act.put, List.setIfInBounds_toArray, List.set_cons_zero, List.set_cons_succ]
              refine tk 19 36 (.pointer (some ⟨b2, o2 + k * 5, none⟩)) hHeld rfl (by kernel_rfl) (by kernel_rfl) (by kernel_rfl) (fun _ _ _ h => h) (Or.inl ⟨by rfl, ?_⟩) ?_
              · rintro w ⟨⟨p0, p1, p2, p3, p4⟩, q0, q1, q2, q3, q4⟩
                go_simp <;> (first | done | assumption | omega | (intro _; omega))
              try simp only [Act.put, List.setIfInBounds_toArray, List.set_cons_zero, List.set_cons_succ]
              refine tk 20 37 (.pointer (some ⟨b2, o2 + k * 5 + 1, none⟩)) hHeld rfl (by kernel_rfl) (by kernel_rfl) (by kernel_rfl) (fun _ _ _ h => h) (Or.inl ⟨by rfl, ?_⟩) ?_
              · rintro w ⟨⟨p0, p1, p2, p3, p4⟩, q0, q1, q2, q3, q4⟩
                go_simp <;> (first | done | assumption | omega | (intro _; omega))
              try simp only [Act.put, List.setIfInBounds_toArray, List.set_cons_zero, List.set_cons_succ]
              refine tk 21 38 (.string (str t.parent)) hHeld rfl (by kernel_rfl) (by kernel_rfl) (by kernel_rfl) (fun _ _ _ h => h) (Or.inl ⟨by rfl, ?_⟩) ?_
              · rintro w ⟨⟨p0, p1, p2, p3, p4⟩, q0, q1, q2, q3, q4⟩
                go_simp <;> (first | done | assumption | omega | (intro _; omega))
              try simp only [Act.put, List.setIfInBounds_toArray, List.set_cons_zero, List.set_cons_succ]
              refine tk 22 39 (.bool false) hHeld rfl (by kernel_rfl) (by kernel_rfl) (by kernel_rfl) (fun _ _ _ h => h) (Or.inl ⟨by rfl, ?_⟩) ?_
              · rintro w ⟨⟨p0, p1, p2, p3, p4⟩, q0, q1, q2, q3, q4⟩
                go_simp <;> (first | done | assumption | omega | (intro _; omega))
              try simp only [Act.put, List.setIfInBounds_toArray, List.set_cons_zero, List.set_cons_succ]
              refine tk 23 40 (.bool false) hHeld rfl (by kernel_rfl) (by kernel_rfl) (by kernel_rfl) (fun _ _ _ h => h) (Or.inl ⟨by rfl, ?_⟩) ?_
              · rintro w ⟨⟨p0, p1, p2, p3, p4⟩, q0, q1, q2, q3, q4⟩
                go_simp <;> (first | done | assumption | omega | (intro _; omega))
              try simp only [Act.put, List.setIfInBounds_toArray, List.set_cons_zero, List.set_cons_succ]
              refine tk 24 41 (.bool false) hHeld rfl (by kernel_rfl) (by kernel_rfl) (by kernel_rfl) (fun _ _ _ h => h) (Or.inl ⟨by rfl, ?_⟩) ?_
              · rintro w ⟨⟨p0, p1, p2, p3, p4⟩, q0, q1, q2, q3, q4⟩
                go_simp <;> (first | done | assumption | omega | (intro _; omega))
              try simp only [Act.put, List.setIfInBounds_toArray, List.set_cons_zero, List.set_cons_succ]
              refine tk 25 42 (.slice (some ⟨b1, o1, none⟩) es.length c) hHeld rfl (by kernel_rfl) (by kernel_rfl) (by kernel_rfl) (fun _ _ _ h => h) (Or.inl ⟨by rfl, ?_⟩) ?_
              · rintro w ⟨⟨p0, p1, p2, p3, p4⟩, q0, q1, q2, q3, q4⟩
                go_simp <;> (first | done | assumption | omega | (intro _; omega))
              try simp only [Act.put, List.setIfInBounds_toArray, List.set_cons_zero, List.set_cons_succ]
              refine tk 26 43 (.int .i64 k) hHeld rfl (by kernel_rfl) (by kernel_rfl) (by kernel_rfl) (fun _ _ _ h => h) (Or.inl ⟨by rfl, ?_⟩) ?_
              · rintro w ⟨⟨p0, p1, p2, p3, p4⟩, q0, q1, q2, q3, q4⟩
                go_simp <;> (first | done | assumption | omega | (intro _; omega))
              try simp only [Act.put, List.setIfInBounds_toArray, List.set_cons_zero, List.set_cons_succ]
              refine tk 27 44 (.pointer (some ⟨b1, o1 + k * 5, none⟩)) hHeld rfl (by kernel_rfl) (by kernel_rfl) (by kernel_rfl) (fun _ _ _ h => h) (Or.inl ⟨by rfl, ?_⟩) ?_
              · rintro w ⟨⟨p0, p1, p2, p3, p4⟩, q0, q1, q2, q3, q4⟩
                go_simp <;> (first | done | assumption | omega | (intro _; omega))
              try simp only [Act.put, List.setIfInBounds_toArray, List.set_cons_zero, List.set_cons_succ]
              refine tk 28 45 (.pointer (some ⟨b1, o1 + k * 5 + 2, none⟩)) hHeld rfl (by kernel_rfl) (by kernel_rfl) (by kernel_rfl) (fun _ _ _ h => h) (Or.inl ⟨by rfl, ?_⟩) ?_
              · rintro w ⟨⟨p0, p1, p2, p3, p4⟩, q0, q1, q2, q3, q4⟩
                go_simp <;> (first | done | assumption | omega | (intro _; omega))
              try simp only [Act.put, List.setIfInBounds_toArray, List.set_cons_zero, List.set_cons_succ]
              refine tk 29 46 (.int .i64 s.kind) hHeld rfl (by kernel_rfl) (by kernel_rfl) (by kernel_rfl) (fun _ _ _ h => h) (Or.inl ⟨by rfl, ?_⟩) ?_
              · rintro w ⟨⟨p0, p1, p2, p3, p4⟩, q0, q1, q2, q3, q4⟩
                go_simp <;> (first | done | assumption | omega | (intro _; omega))
              try simp only [Act.put, List.setIfInBounds_toArray, List.set_cons_zero, List.set_cons_succ]
              refine tk 30 47 (.slice (some ⟨b2, o2, none⟩) fs.length d) hHeld rfl (by kernel_rfl) (by kernel_rfl) (by kernel_rfl) (fun _ _ _ h => h) (Or.inl ⟨by rfl, ?_⟩) ?_
              · rintro w ⟨⟨p0, p1, p2, p3, p4⟩, q0, q1, q2, q3, q4⟩
                go_simp <;> (first | done | assumption | omega | (intro _; omega))
              try simp only [Act.put, List.setIfInBounds_toArray, List.set_cons_zero, List.set_cons_succ]
              refine tk 31 48 (.int .i64 k) hHeld rfl (by kernel_rfl) (by kernel_rfl) (by kernel_rfl) (fun _ _ _ h => h) (Or.inl ⟨by rfl, ?_⟩) ?_
              · rintro w ⟨⟨p0, p1, p2, p3, p4⟩, q0, q1, q2, q3, q4⟩
                go_simp <;> (first | done | assumption | omega | (intro _; omega))
              try simp only [Act.put, List.setIfInBounds_toArray, List.set_cons_zero, List.set_cons_succ]
              refine tk 32 49 (.pointer (some ⟨b2, o2 + k * 5, none⟩)) hHeld rfl (by kernel_rfl) (by kernel_rfl) (by kernel_rfl) (fun _ _ _ h => h) (Or.inl ⟨by rfl, ?_⟩) ?_
              · rintro w ⟨⟨p0, p1, p2, p3, p4⟩, q0, q1, q2, q3, q4⟩
                go_simp <;> (first | done | assumption | omega | (intro _; omega))
              try simp only [Act.put, List.setIfInBounds_toArray, List.set_cons_zero, List.set_cons_succ]
              refine tk 33 50 (.pointer (some ⟨b2, o2 + k * 5 + 2, none⟩)) hHeld rfl (by kernel_rfl) (by kernel_rfl) (by kernel_rfl) (fun _ _ _ h => h) (Or.inl ⟨by rfl, ?_⟩) ?_
              · rintro w ⟨⟨p0, p1, p2, p3, p4⟩, q0, q1, q2, q3, q4⟩
                go_simp <;> (first | done | assumption | omega | (intro _; omega))
              try simp only [Act.put, List.setIfInBounds_toArray, List.set_cons_zero, List.set_cons_succ]
              refine tk 34 51 (.int .i64 t.kind) hHeld rfl (by kernel_rfl) (by kernel_rfl) (by kernel_rfl) (fun _ _ _ h => h) (Or.inl ⟨by rfl, ?_⟩) ?_
              · rintro w ⟨⟨p0, p1, p2, p3, p4⟩, q0, q1, q2, q3, q4⟩
                go_simp <;> (first | done | assumption | omega | (intro _; omega))
              try simp only [Act.put, List.setIfInBounds_toArray, List.set_cons_zero, List.set_cons_succ]
              refine tk 35 52 (.bool true) hHeld rfl (by kernel_rfl) (by kernel_rfl) (by kernel_rfl) (fun _ _ _ h => h) (Or.inl ⟨by rfl, ?_⟩) ?_
              · rintro w ⟨⟨p0, p1, p2, p3, p4⟩, q0, q1, q2, q3, q4⟩
                go_simp <;> (first | done | assumption | omega | (intro _; omega))
              try simp only [Act.put, List.setIfInBounds_toArray, List.set_cons_zero, List.set_cons_succ]
              refine tk 36 53 (.bool true) hHeld rfl (by kernel_rfl) (by kernel_rfl) (by kernel_rfl) (fun _ _ _ h => h) (Or.inl ⟨by rfl, ?_⟩) ?_
              · rintro w ⟨⟨p0, p1, p2, p3, p4⟩, q0, q1, q2, q3, q4⟩
                go_simp <;> (first | done | assumption | omega | (intro _; omega))
              try simp only [Act.put, List.setIfInBounds_toArray, List.set_cons_zero, List.set_cons_succ]
              refine tk 37 54 (.bool true) hHeld rfl (by kernel_rfl) (by kernel_rfl) (by kernel_rfl) (fun _ _ _ h => h) (Or.inl ⟨by rfl, ?_⟩) ?_
              · rintro w ⟨⟨p0, p1, p2, p3, p4⟩, q0, q1, q2, q3, q4⟩
                go_simp <;> (first | done | assumption | omega | (intro _; omega))
              try simp only [Act.put, List.setIfInBounds_toArray, List.set_cons_zero, List.set_cons_succ]
              refine tk 38 55 undef hHeld rfl (by kernel_rfl) (by kernel_rfl) (by kernel_rfl) (fun _ _ _ h => h) (Or.inr ⟨by rfl, rfl⟩) ?_
              try simp only [Act.put, List.setIfInBounds_toArray, List.set_cons_zero, List.set_cons_succ]
              refine tk 39 56 undef hHeld rfl (by kernel_rfl) (by kernel_rfl) (by kernel_rfl) (fun _ _ _ h => h) (Or.inr ⟨by rfl, rfl⟩) ?_
              try simp only [Act.put, List.setIfInBounds_toArray, List.set_cons_zero, List.set_cons_succ]
              refine tk 40 57 undef hHeld rfl (by kernel_rfl) (by kernel_rfl) (by kernel_rfl) (fun _ _ _ h => h) (Or.inr ⟨by rfl, rfl⟩) ?_
              try simp only [Act.put, List.setIfInBounds_toArray, List.set_cons_zero, List.set_cons_succ]
              refine tk 41 58 undef hHeld rfl (by kernel_rfl) (by kernel_rfl) (by kernel_rfl) (fun _ _ _ h => h) (Or.inr ⟨by rfl, rfl⟩) ?_
              try simp only [Act.put, List.setIfInBounds_toArray, List.set_cons_zero, List.set_cons_succ]
              refine tk 42 59 undef hHeld rfl (by kernel_rfl) (by kernel_rfl) (by kernel_rfl) (fun _ _ _ h => h) (Or.inr ⟨by rfl, rfl⟩) ?_
              try simp only [Act.put, List.setIfInBounds_toArray, List.set_cons_zero, List.set_cons_succ]
              refine tk 43 60 undef hHeld rfl (by kernel_rfl) (by kernel_rfl) (by kernel_rfl) (fun _ _ _ h => h) (Or.inr ⟨by rfl, rfl⟩) ?_
              try simp only [Act.put, List.setIfInBounds_toArray, List.set_cons_zero, List.set_cons_succ]
              refine tk 44 61 undef hHeld rfl (by kernel_rfl) (by kernel_rfl) (by kernel_rfl) (fun _ _ _ h => h) (Or.inr ⟨by rfl, rfl⟩) ?_
              try simp only [Act.put, List.setIfInBounds_toArray, List.set_cons_zero, List.set_cons_succ]
              refine tk 45 62 undef hHeld rfl (by kernel_rfl) (by kernel_rfl) (by kernel_rfl) (fun _ _ _ h => h) (Or.inr ⟨by rfl, rfl⟩) ?_
              try simp only [Act.put, List.setIfInBounds_toArray, List.set_cons_zero, List.set_cons_succ]
              refine tk 46 63 undef hHeld rfl (by kernel_rfl) (by kernel_rfl) (by kernel_rfl) (fun _ _ _ h => h) (Or.inr ⟨by rfl, rfl⟩) ?_
              try simp only [Act.put, List.setIfInBounds_toArray, List.set_cons_zero, List.set_cons_succ]
              refine tk 47 64 undef hHeld rfl (by kernel_rfl) (by kernel_rfl) (by kernel_rfl) (fun _ _ _ h => h) (Or.inr ⟨by rfl, rfl⟩) ?_
              try simp only [Act.put, List.setIfInBounds_toArray, List.set_cons_zero, List.set_cons_succ]
              refine tk 48 65 undef hHeld rfl (by kernel_rfl) (by kernel_rfl) (by kernel_rfl) (fun _ _ _ h => h) (Or.inr ⟨by rfl, rfl⟩) ?_
              try simp only [Act.put, List.setIfInBounds_toArray, List.set_cons_zero, List.set_cons_succ]
              refine tk 49 66 (.bool true) hHeld rfl (by kernel_rfl) (by kernel_rfl) (by kernel_rfl) (fun _ _ _ h => h) (Or.inl ⟨by rfl, ?_⟩) ?_
              · rintro w ⟨⟨p0, p1, p2, p3, p4⟩, q0, q1, q2, q3, q4⟩
                go_simp <;> (first | done | assumption | omega | (intro _; omega))
              try simp only [Act.put, List.setIfInBounds_toArray, List.set_cons_zero, List.set_cons_succ]
              refine tk 50 67 (.bool true) hHeld rfl (by kernel_rfl) (by kernel_rfl) (by kernel_rfl) (fun _ _ _ h => h) (Or.inl ⟨by rfl, ?_⟩) ?_
              · rintro w ⟨⟨p0, p1, p2, p3, p4⟩, q0, q1, q2, q3, q4⟩
                go_simp <;> (first | done | assumption | omega | (intro _; omega))
              try simp only [Act.put, List.setIfInBounds_toArray, List.set_cons_zero, List.set_cons_succ]
              refine tk 51 68 undef hHeld rfl (by kernel_rfl) (by kernel_rfl) (by kernel_rfl) (fun _ _ _ h => h) (Or.inr ⟨by rfl, rfl⟩) ?_
              try simp only [Act.put, List.setIfInBounds_toArray, List.set_cons_zero, List.set_cons_succ]
              refine tk 52 69 undef hHeld rfl (by kernel_rfl) (by kernel_rfl) (by kernel_rfl) (fun _ _ _ h => h) (Or.inr ⟨by rfl, rfl⟩) ?_
              try simp only [Act.put, List.setIfInBounds_toArray, List.set_cons_zero, List.set_cons_succ]
              refine tk 53 70 undef hHeld rfl (by kernel_rfl) (by kernel_rfl) (by kernel_rfl) (fun _ _ _ h => h) (Or.inr ⟨by rfl, rfl⟩) ?_
              try simp only [Act.put, List.setIfInBounds_toArray, List.set_cons_zero, List.set_cons_succ]
              refine tk 54 71 undef hHeld rfl (by kernel_rfl) (by kernel_rfl) (by kernel_rfl) (fun _ _ _ h => h) (Or.inr ⟨by rfl, rfl⟩) ?_
              try simp only [Act.put, List.setIfInBounds_toArray, List.set_cons_zero, List.set_cons_succ]
              refine tk 55 72 undef hHeld rfl (by kernel_rfl) (by kernel_rfl) (by kernel_rfl) (fun _ _ _ h => h) (Or.inr ⟨by rfl, rfl⟩) ?_
              try simp only [Act.put, List.setIfInBounds_toArray, List.set_cons_zero, List.set_cons_succ]
              refine tk 56 73 undef hHeld rfl (by kernel_rfl) (by kernel_rfl) (by kernel_rfl) (fun _ _ _ h => h) (Or.inr ⟨by rfl, rfl⟩) ?_
              try simp only [Act.put, List.setIfInBounds_toArray, List.set_cons_zero, List.set_cons_succ]
              refine tk 57 74 undef hHeld rfl (by kernel_rfl) (by kernel_rfl) (by kernel_rfl) (fun _ _ _ h => h) (Or.inr ⟨by rfl, rfl⟩) ?_
              try simp only [Act.put, List.setIfInBounds_toArray, List.set_cons_zero, List.set_cons_succ]
              refine tk 58 75 undef hHeld rfl (by kernel_rfl) (by kernel_rfl) (by kernel_rfl) (fun _ _ _ h => h) (Or.inr ⟨by rfl, rfl⟩) ?_
              try simp only [Act.put, List.setIfInBounds_toArray, List.set_cons_zero, List.set_cons_succ]
              refine tk 59 76 undef hHeld rfl (by kernel_rfl) (by kernel_rfl) (by kernel_rfl) (fun _ _ _ h => h) (Or.inr ⟨by rfl, rfl⟩) ?_
              try simp only [Act.put, List.setIfInBounds_toArray, List.set_cons_zero, List.set_cons_succ]
              refine tk 60 77 undef hHeld rfl (by kernel_rfl) (by kernel_rfl) (by kernel_rfl) (fun _ _ _ h => h) (Or.inr ⟨by rfl, rfl⟩) ?_
              try simp only [Act.put, List.setIfInBounds_toArray, List.set_cons_zero, List.set_cons_succ]
              refine tk 61 78 undef hHeld rfl (by kernel_rfl) (by kernel_rfl) (by kernel_rfl) (fun _ _ _ h => h) (Or.inr ⟨by rfl, rfl⟩) ?_
              try simp only [Act.put, List.setIfInBounds_toArray, List.set_cons_zero, List.set_cons_succ]
              refine tk 62 79 undef hHeld rfl (by kernel_rfl) (by kernel_rfl) (by kernel_rfl) (fun _ _ _ h => h) (Or.inr ⟨by rfl, rfl⟩) ?_
              try simp only [Act.put, List.setIfInBounds_toArray, List.set_cons_zero, List.set_cons_succ]
              refine tk 63 80 (.bool true) hHeld rfl (by kernel_rfl) (by kernel_rfl) (by kernel_rfl) (fun _ _ _ h => h) (Or.inl ⟨by rfl, ?_⟩) ?_
              · rintro w ⟨⟨p0, p1, p2, p3, p4⟩, q0, q1, q2, q3, q4⟩
                go_simp <;> (first | done | assumption | omega | (intro _; omega))
              try simp only [Act.put, List.setIfInBounds_toArray, List.set_cons_zero, List.set_cons_succ]
              refine wpAnyH_done (by kernel_rfl) ?_ _
              go_wp2_with fail
              go_ret
              exact ⟨_, rfl, HX.out, below_next HW.out (Below.refl _ _).drew⟩
          · have hbp := str_no hpa
            have HX := hide (show false = true ↔ es = fs from ⟨fun e => Bool.noConfusion e, fun e => absurd e (ne_atN HX1.out HX2.out (fun e9 => hpa (by rw [e9])))⟩)
            go_wp2_with fail
            clear p0 p1 p2 p3 p4 q0 q1 q2 q3 q4
            refine wp_region_held_drew (S := fun u : World => (u.cell? ⟨b1, o1 + k * 5, none⟩ = some (.string (str s.name)) ∧ u.cell? ⟨b1, o1 + k * 5 + 1, none⟩ = some (.string (str s.parent)) ∧ u.cell? ⟨b1, o1 + k * 5 + 2, none⟩ = some (.int .i64 s.kind) ∧ u.cell? ⟨b1, o1 + k * 5 + 3, none⟩ = some (.bool s.lease) ∧ u.cell? ⟨b1, o1 + k * 5 + 4, none⟩ = some (.slice x s.layer.length cc)) ∧ (u.cell? ⟨b2, o2 + k * 5, none⟩ = some (.string (str t.name)) ∧ u.cell? ⟨b2, o2 + k * 5 + 1, none⟩ = some (.string (str t.parent)) ∧ u.cell? ⟨b2, o2 + k * 5 + 2, none⟩ = some (.int .i64 t.kind) ∧ u.cell? ⟨b2, o2 + k * 5 + 3, none⟩ = some (.bool t.lease) ∧ u.cell? ⟨b2, o2 + k * 5 + 4, none⟩ = some (.slice y t.layer.length dd))) (by kernel_rfl) (KC.out _ (Below.refl _ _).drew) (fun hHeld => ?_)
            change wpAnyH _ _ _ _ _ _ (Array.replicate _ false) _ _
            refine tk 0 17 (.slice (some ⟨b1, o1, none⟩) es.length c) hHeld rfl (by kernel_rfl) (by kernel_rfl) (by kernel_rfl) (fun _ _ _ h => h) (Or.inl ⟨by rfl, ?_⟩) ?_
            · rintro w ⟨⟨p0, p1, p2, p3, p4⟩, q0, q1, q2, q3, q4⟩
              go_simp <;> (first | done | assumption | omega | (intro _; omega))
            try simp only [Act.put, List.setIfInBounds_toArray, List.set_cons_zero, List.set_cons_succ]
            refine tk 1 18 (.int .i64 k) hHeld rfl (by kernel_rfl) (by kernel_rfl) (by kernel_rfl) (fun _ _ _ h => h) (Or.inl ⟨by rfl, ?_⟩) ?_
            · rintro w ⟨⟨p0, p1, p2, p3, p4⟩, q0, q1, q2, q3, q4⟩
              go_simp <;> (first | done | assumption | omega | (intro _; omega))
            try simp only [Act.put, List.setIfInBounds_toArray, List.set_cons_zero, List.set_cons_succ]
            refine tk 2 19 (.pointer (some ⟨b1, o1 + k * 5, none⟩)) hHeld rfl (by kernel_rfl) (by kernel_rfl) (by kernel_rfl) (fun _ _ _ h => h) (Or.inl ⟨by rfl, ?_⟩) ?_
            · rintro w ⟨⟨p0, p1, p2, p3, p4⟩, q0, q1, q2, q3, q4⟩
              go_simp <;> (first | done | assumption | omega | (intro _; omega))
            try simp only [Act.put, List.setIfInBounds_toArray, List.set_cons_zero, List.set_cons_succ]
            refine tk 3 20 (.pointer (some ⟨b1, o1 + k * 5, none⟩)) hHeld rfl (by kernel_rfl) (by kernel_rfl) (by kernel_rfl) (fun _ _ _ h => h) (Or.inl ⟨by rfl, ?_⟩) ?_
            · rintro w ⟨⟨p0, p1, p2, p3, p4⟩, q0, q1, q2, q3, q4⟩
              go_simp <;> (first | done | assumption | omega | (intro _; omega))
            try simp only [Act.put, List.setIfInBounds_toArray, List.set_cons_zero, List.set_cons_succ]
            refine tk 4 21 (.string (str s.name)) hHeld rfl (by kernel_rfl) (by kernel_rfl) (by kernel_rfl) (fun _ _ _ h => h) (Or.inl ⟨by rfl, ?_⟩) ?_
            · rintro w ⟨⟨p0, p1, p2, p3, p4⟩, q0, q1, q2, q3, q4⟩
              go_simp <;> (first | done | assumption | omega | (intro _; omega))
            try simp only [Act.put, List.setIfInBounds_toArray, List.set_cons_zero, List.set_cons_succ]
            refine tk 5 22 (.slice (some ⟨b2, o2, none⟩) fs.length d) hHeld rfl (by kernel_rfl) (by kernel_rfl) (by kernel_rfl) (fun _ _ _ h => h) (Or.inl ⟨by rfl, ?_⟩) ?_
            · rintro w ⟨⟨p0, p1, p2, p3, p4⟩, q0, q1, q2, q3, q4⟩
              go_simp <;> (first | done | assumption | omega | (intro _; omega))
            try simp only [Act.put, List.setIfInBounds_toArray, List.set_cons_zero, List.set_cons_succ]
            refine tk 6 23 (.int .i64 k) hHeld rfl (by kernel_rfl) (by kernel_rfl) (by kernel_rfl) (fun _ _ _ h => h) (Or.inl ⟨by rfl, ?_⟩) ?_
            · rintro w ⟨⟨p0, p1, p2, p3, p4⟩, q0, q1, q2, q3, q4⟩
              go_simp <;> (first | done | assumption | omega | (intro _; omega))
            try simp only [Act.put, List.setIfInBounds_toArray, List.set_cons_zero, List.set_cons_succ]
            refine tk 7 24 (.pointer (some ⟨b2, o2 + k * 5, none⟩)) hHeld rfl (by kernel_rfl) (by kernel_rfl) (by kernel_rfl) (fun _ _ _ h => h) (Or.inl ⟨by rfl, ?_⟩) ?_
            · rintro w ⟨⟨p0, p1, p2, p3, p4⟩, q0, q1, q2, q3, q4⟩
              go_simp <;> (first | done | assumption | omega | (intro _; omega))
            try simp only [Act.put, List.setIfInBounds_toArray, List.set_cons_zero, List.set_cons_succ]
            refine tk 8 25 (.pointer (some ⟨b2, o2 + k * 5, none⟩)) hHeld rfl (by kernel_rfl) (by kernel_rfl) (by kernel_rfl) (fun _ _ _ h => h) (Or.inl ⟨by rfl, ?_⟩) ?_
            · rintro w ⟨⟨p0, p1, p2, p3, p4⟩, q0, q1, q2, q3, q4⟩
              go_simp <;> (first | done | assumption | omega | (intro _; omega))
            try simp only [Act.put, List.setIfInBounds_toArray, List.set_cons_zero, List.set_cons_succ]
            refine tk 9 26 (.string (str t.name)) hHeld rfl (by kernel_rfl) (by kernel_rfl) (by kernel_rfl) (fun _ _ _ h => h) (Or.inl ⟨by rfl, ?_⟩) ?_
            · rintro w ⟨⟨p0, p1, p2, p3, p4⟩, q0, q1, q2, q3, q4⟩
              go_simp <;> (first | done | assumption | omega | (intro _; omega))
            try simp only [Act.put, List.setIfInBounds_toArray, List.set_cons_zero, List.set_cons_succ]
            refine tk 10 27 (.bool false) hHeld rfl (by kernel_rfl) (by kernel_rfl) (by kernel_rfl) (fun _ _ _ h => h) (Or.inl ⟨by rfl, ?_⟩) ?_
            · rintro w ⟨⟨p0, p1, p2, p3, p4⟩, q0, q1, q2, q3, q4⟩
              go_simp <;> (first | done | assumption | omega | (intro _; omega))
            try simp only [Act.put, List.setIfInBounds_toArray, List.set_cons_zero, List.set_cons_succ]
            refine tk 11 28 (.bool false) hHeld rfl (by kernel_rfl) (by kernel_rfl) (by kernel_rfl) (fun _ _ _ h => h) (Or.inl ⟨by rfl, ?_⟩) ?_
            · rintro w ⟨⟨p0, p1, p2, p3, p4⟩, q0, q1, q2, q3, q4⟩
              go_simp <;> (first | done | assumption | omega | (intro _; omega))
            try simp only [Act.put, List.setIfInBounds_toArray, List.set_cons_zero, List.set_cons_succ]
            refine tk 12 29 (.slice (some ⟨b1, o1, none⟩) es.length c) hHeld rfl (by kernel_rfl) (by kernel_rfl) (by kernel_rfl) (fun _ _ _ h => h) (Or.inl ⟨by rfl, ?_⟩) ?_
            · rintro w ⟨⟨p0, p1, p2, p3, p4⟩, q0, q1, q2, q3, q4⟩
              go_simp <;> (first | done | assumption | omega | (intro _; omega))
            try simp only [Act.put, List.setIfInBounds_toArray, List.set_cons_zero, List.set_cons_succ]
            refine tk 13 30 (.int .i64 k) hHeld rfl (by kernel_rfl) (by kernel_rfl) (by kernel_rfl) (fun _ _ _ h => h) (Or.inl ⟨by rfl, ?_⟩) ?_
            · rintro w ⟨⟨p0, p1, p2, p3, p4⟩, q0, q1, q2, q3, q4⟩
              go_simp <;> (first | done | assumption | omega | (intro _; omega))
            try simp only [Act.put, List.setIfInBounds_toArray, List.set_cons_zero, List.set_cons_succ]
            refine tk 14 31 (.pointer (some ⟨b1, o1 + k * 5, none⟩)) hHeld rfl (by kernel_rfl) (by kernel_rfl) (by kernel_rfl) (fun _ _ _ h => h) (Or.inl ⟨by rfl, ?_⟩) ?_
            · rintro w ⟨⟨p0, p1, p2, p3, p4⟩, q0, q1, q2, q3, q4⟩
              go_simp <;> (first | done | assumption | omega | (intro _; omega))
            try simp only [Act.put, List.setIfInBounds_toArray, List.set_cons_zero, List.set_cons_succ]
            refine tk 15 32 (.pointer (some ⟨b1, o1 + k * 5 + 1, none⟩)) hHeld rfl (by kernel_rfl) (by kernel_rfl) (by kernel_rfl) (fun _ _ _ h => h) (Or.inl ⟨by rfl, ?_⟩) ?_
            · rintro w ⟨⟨p0, p1, p2, p3, p4⟩, q0, q1, q2, q3, q4⟩
              go_simp <;> (first | done | assumption | omega | (intro _; omega))
            try simp only [Act.put, List.setIfInBounds_toArray, List.set_cons_zero, List.set_cons_succ]
            refine tk 16 33 (.string (str s.parent)) hHeld rfl (by kernel_rfl) (by kernel_rfl) (by kernel_rfl) (fun _ _ _ h => h) (Or.inl ⟨by rfl, ?_⟩) ?_
            · rintro w ⟨⟨p0, p1, p2, p3, p4⟩, q0, q1, q2, q3, q4⟩
              go_simp <;> (first | done | assumption | omega | (intro _; omega))
            try simp only [Act.put, List.setIfInBounds_toArray, List.set_cons_zero, List.set_cons_succ]
            refine tk 17 34 (.slice (some ⟨b2, o2, none⟩) fs.length d) hHeld rfl (by kernel_rfl) (by kernel_rfl) (by kernel_rfl) (fun _ _ _ h => h) (Or.inl ⟨by rfl, ?_⟩) ?_
            · rintro w ⟨⟨p0, p1, p2, p3, p4⟩, q0, q1, q2, q3, q4⟩
              go_simp <;> (first | done | assumption | omega | (intro _; omega))
            try simp only [Act.put, List.setIfInBounds_toArray, List.set_cons_zero, List.set_cons_succ]
            refine tk 18 35 (.int .i64 k) hHeld rfl (by kernel_rfl) (by kernel_rfl) (by kernel_rfl) (fun _ _ _ h => h) (Or.inl ⟨by rfl, ?_⟩) ?_
            · rintro w ⟨⟨p0, p1, p2, p3, p4⟩, q0, q1, q2, q3, q4⟩
              go_simp <;> (first | done | assumption | omega | (intro _; omega))
            try simp only [Act.put, List.setIfInBounds_toArray, List.set_cons_zero, List.set_cons_succ]
            refine tk 19 36 (.pointer (some ⟨b2, o2 + k * 5, none⟩)) hHeld rfl (by kernel_rfl) (by kernel_rfl) (by kernel_rfl) (fun _ _ _ h => h) (Or.inl ⟨by rfl, ?_⟩) ?_
            · rintro w ⟨⟨p0, p1, p2, p3, p4⟩, q0, q1, q2, q3, q4⟩
              go_simp <;> (first | done | assumption | omega | (intro _; omega))
            try simp only [Act.put, List.setIfInBounds_toArray, List.set_cons_zero, List.set_cons_succ]
            refine tk 20 37 (.pointer (some ⟨b2, o2 + k * 5 + 1, none⟩)) hHeld rfl (by kernel_rfl) (by kernel_rfl) (by kernel_rfl) (fun _ _ _ h => h) (Or.inl ⟨by rfl, ?_⟩) ?_
            · rintro w ⟨⟨p0, p1, p2, p3, p4⟩, q0, q1, q2, q3, q4⟩
              go_simp <;> (first | done | assumption | omega | (intro _; omega))
            try simp only [Act.put, List.setIfInBounds_toArray, List.set_cons_zero, List.set_cons_succ]
            refine tk 21 38 (.string (str t.parent)) hHeld rfl (by kernel_rfl) (by kernel_rfl) (by kernel_rfl) (fun _ _ _ h => h) (Or.inl ⟨by rfl, ?_⟩) ?_
            · rintro w ⟨⟨p0, p1, p2, p3, p4⟩, q0, q1, q2, q3, q4⟩
              go_simp <;> (first | done | assumption | omega | (intro _; omega))
            try simp only [Act.put, List.setIfInBounds_toArray, List.set_cons_zero, List.set_cons_succ]
            refine tk 22 39 (.bool true) hHeld rfl (by kernel_rfl) (by kernel_rfl) (by kernel_rfl) (fun _ _ _ h => h) (Or.inl ⟨by rfl, ?_⟩) ?_
            · rintro w ⟨⟨p0, p1, p2, p3, p4⟩, q0, q1, q2, q3, q4⟩
              go_simp <;> (first | done | assumption | omega | (intro _; omega))
            try simp only [Act.put, List.setIfInBounds_toArray, List.set_cons_zero, List.set_cons_succ]
            refine tk 23 40 (.bool true) hHeld rfl (by kernel_rfl) (by kernel_rfl) (by kernel_rfl) (fun _ _ _ h => h) (Or.inl ⟨by rfl, ?_⟩) ?_
            · rintro w ⟨⟨p0, p1, p2, p3, p4⟩, q0, q1, q2, q3, q4⟩
              go_simp <;> (first | done | assumption | omega | (intro _; omega))
            try simp only [Act.put, List.setIfInBounds_toArray, List.set_cons_zero, List.set_cons_succ]
            refine tk 24 41 (.bool true) hHeld rfl (by kernel_rfl) (by kernel_rfl) (by kernel_rfl) (fun _ _ _ h => h) (Or.inl ⟨by rfl, ?_⟩) ?_
            · rintro w ⟨⟨p0, p1, p2, p3, p4⟩, q0, q1, q2, q3, q4⟩
              go_simp <;> (first | done | assumption | omega | (intro _; omega))
            try simp only [Act.put, List.setIfInBounds_toArray, List.set_cons_zero, List.set_cons_succ]
            refine tk 25 42 undef hHeld rfl (by kernel_rfl) (by kernel_rfl) (by kernel_rfl) (fun _ _ _ h => h) (Or.inr ⟨by rfl, rfl⟩) ?_
            try simp only [Act.put, List.setIfInBounds_toArray, List.set_cons_zero, List.set_cons_succ]
            refine tk 26 43 undef hHeld rfl (by kernel_rfl) (by kernel_rfl) (by kernel_rfl) (fun _ _ _ h => h) (Or.inr ⟨by rfl, rfl⟩) ?_
            try simp only [Act.put, List.setIfInBounds_toArray, List.set_cons_zero, List.set_cons_succ]
            refine tk 27 44 undef hHeld rfl (by kernel_rfl) (by kernel_rfl) (by kernel_rfl) (fun _ _ _ h => h) (Or.inr ⟨by rfl, rfl⟩) ?_
            try simp only [Act.put, List.setIfInBounds_toArray, List.set_cons_zero, List.set_cons_succ]
            refine tk 28 45 undef hHeld rfl (by kernel_rfl) (by kernel_rfl) (by kernel_rfl) (fun _ _ _ h => h) (Or.inr ⟨by rfl, rfl⟩) ?_
            try simp only [Act.put, List.setIfInBounds_toArray, List.set_cons_zero, List.set_cons_succ]
            refine tk 29 46 undef hHeld rfl (by kernel_rfl) (by kernel_rfl) (by kernel_rfl) (fun _ _ _ h => h) (Or.inr ⟨by rfl, rfl⟩) ?_
            try simp only [Act.put, List.setIfInBounds_toArray, List.set_cons_zero, List.set_cons_succ]
            refine tk 30 47 undef hHeld rfl (by kernel_rfl) (by kernel_rfl) (by kernel_rfl) (fun _ _ _ h => h) (Or.inr ⟨by rfl, rfl⟩) ?_
            try simp only [Act.put, List.setIfInBounds_toArray, List.set_cons_zero, List.set_cons_succ]
            refine tk 31 48 undef hHeld rfl (by kernel_rfl) (by kernel_rfl) (by kernel_rfl) (fun _ _ _ h => h) (Or.inr ⟨by rfl, rfl⟩) ?_
            try simp only [Act.put, List.setIfInBounds_toArray, List.set_cons_zero, List.set_cons_succ]
            refine tk 32 49 undef hHeld rfl (by kernel_rfl) (by kernel_rfl) (by kernel_rfl) (fun _ _ _ h => h) (Or.inr ⟨by rfl, rfl⟩) ?_
            try simp only [Act.put, List.setIfInBounds_toArray, List.set_cons_zero, List.set_cons_succ]
            refine tk 33 50 undef hHeld rfl (by kernel_rfl) (by kernel_rfl) (by kernel_rfl) (fun _ _ _ h => h) (Or.inr ⟨by rfl, rfl⟩) ?_
            try simp only [Act.put, List.setIfInBounds_toArray, List.set_cons_zero, List.set_cons_succ]
            refine tk 34 51 undef hHeld rfl (by kernel_rfl) (by kernel_rfl) (by kernel_rfl) (fun _ _ _ h => h) (Or.inr ⟨by rfl, rfl⟩) ?_
            try simp only [Act.put, List.setIfInBounds_toArray, List.set_cons_zero, List.set_cons_succ]
            refine tk 35 52 undef hHeld rfl (by kernel_rfl) (by kernel_rfl) (by kernel_rfl) (fun _ _ _ h => h) (Or.inr ⟨by rfl, rfl⟩) ?_
            try simp only [Act.put, List.setIfInBounds_toArray, List.set_cons_zero, List.set_cons_succ]
            refine tk 36 53 (.bool true) hHeld rfl (by kernel_rfl) (by kernel_rfl) (by kernel_rfl) (fun _ _ _ h => h) (Or.inl ⟨by rfl, ?_⟩) ?_
            · rintro w ⟨⟨p0, p1, p2, p3, p4⟩, q0, q1, q2, q3, q4⟩
              go_simp <;> (first | done | assumption | omega | (intro _; omega))
            try simp only [Act.put, List.setIfInBounds_toArray, List.set_cons_zero, List.set_cons_succ]
            refine tk 37 54 (.bool true) hHeld rfl (by kernel_rfl) (by kernel_rfl) (by kernel_rfl) (fun _ _ _ h => h) (Or.inl ⟨by rfl, ?_⟩) ?_
            · rintro w ⟨⟨p0, p1, p2, p3, p4⟩, q0, q1, q2, q3, q4⟩
              go_simp <;> (first | done | assumption | omega | (intro _; omega))
            try simp only [Act.put, List.setIfInBounds_toArray, List.set_cons_zero, List.set_cons_succ]
            refine tk 38 55 undef hHeld rfl (by kernel_rfl) (by kernel_rfl) (by kernel_rfl) (fun _ _ _ h => h) (Or.inr ⟨by rfl, rfl⟩) ?_
            try simp only [Act.put, List.setIfInBounds_toArray, List.set_cons_zero, List.set_cons_succ]
            refine tk 39 56 undef hHeld rfl (by kernel_rfl) (by kernel_rfl) (by kernel_rfl) (fun _ _ _ h => h) (Or.inr ⟨by rfl, rfl⟩) ?_
            try simp only [Act.put, List.setIfInBounds_toArray, List.set_cons_zero, List.set_cons_succ]
            refine tk 40 57 undef hHeld rfl (by kernel_rfl) (by kernel_rfl) (by kernel_rfl) (fun _ _ _ h => h) (Or.inr ⟨by rfl, rfl⟩) ?_
            try simp only [Act.put, List.setIfInBounds_toArray, List.set_cons_zero, List.set_cons_succ]
            refine tk 41 58 undef hHeld rfl (by kernel_rfl) (by kernel_rfl) (by kernel_rfl) (fun _ _ _ h => h) (Or.inr ⟨by rfl, rfl⟩) ?_
            try simp only [Act.put, List.setIfInBounds_toArray, List.set_cons_zero, List.set_cons_succ]
            refine tk 42 59 undef hHeld rfl (by kernel_rfl) (by kernel_rfl) (by kernel_rfl) (fun _ _ _ h => h) (Or.inr ⟨by rfl, rfl⟩) ?_
            try simp only [Act.put, List.setIfInBounds_toArray, List.set_cons_zero, List.set_cons_succ]
            refine tk 43 60 undef hHeld rfl (by kernel_rfl) (by kernel_rfl) (by kernel_rfl) (fun _ _ _ h => h) (Or.inr ⟨by rfl, rfl⟩) ?_
            try simp only [Act.put, List.setIfInBounds_toArray, List.set_cons_zero, List.set_cons_succ]
            refine tk 44 61 undef hHeld rfl (by kernel_rfl) (by kernel_rfl) (by kernel_rfl) (fun _ _ _ h => h) (Or.inr ⟨by rfl, rfl⟩) ?_
            try simp only [Act.put, List.setIfInBounds_toArray, List.set_cons_zero, List.set_cons_succ]
            refine tk 45 62 undef hHeld rfl (by kernel_rfl) (by kernel_rfl) (by kernel_rfl) (fun _ _ _ h => h) (Or.inr ⟨by rfl, rfl⟩) ?_
            try simp only [Act.put, List.setIfInBounds_toArray, List.set_cons_zero, List.set_cons_succ]
            refine tk 46 63 undef hHeld rfl (by kernel_rfl) (by kernel_rfl) (by kernel_rfl) (fun _ _ _ h => h) (Or.inr ⟨by rfl, rfl⟩) ?_
            try simp only [Act.put, List.setIfInBounds_toArray, List.set_cons_zero, List.set_cons_succ]
            refine tk 47 64 undef hHeld rfl (by kernel_rfl) (by kernel_rfl) (by kernel_rfl) (fun _ _ _ h => h) (Or.inr ⟨by rfl, rfl⟩) ?_
            try simp only [Act.put, List.setIfInBounds_toArray, List.set_cons_zero, List.set_cons_succ]
            refine tk 48 65 undef hHeld rfl (by kernel_rfl) (by kernel_rfl) (by kernel_rfl) (fun _ _ _ h => h) (Or.inr ⟨by rfl, rfl⟩) ?_
            try simp only [Act.put, List.setIfInBounds_toArray, List.set_cons_zero, List.set_cons_succ]
            refine tk 49 66 (.bool true) hHeld rfl (by kernel_rfl) (by kernel_rfl) (by kernel_rfl) (fun _ _ _ h => h) (Or.inl ⟨by rfl, ?_⟩) ?_
            · rintro w ⟨⟨p0, p1, p2, p3, p4⟩, q0, q1, q2, q3, q4⟩
              go_simp <;> (first | done | assumption | omega | (intro _; omega))
            try simp only [Act.put, List.setIfInBounds_toArray, List.set_cons_zero, List.set_cons_succ]
            refine tk 50 67 (.bool true) hHeld rfl (by kernel_rfl) (by kernel_rfl) (by kernel_rfl) (fun _ _ _ h => h) (Or.inl ⟨by rfl, ?_⟩) ?_
            · rintro w ⟨⟨p0, p1, p2, p3, p4⟩, q0, q1, q2, q3, q4⟩
              go_simp <;> (first | done | assumption | omega | (intro _; omega))
            try simp only [Act.put, List.setIfInBounds_toArray, List.set_cons_zero, List.set_cons_succ]
            refine tk 51 68 undef hHeld rfl (by kernel_rfl) (by kernel_rfl) (by kernel_rfl) (fun _ _ _ h => h) (Or.inr ⟨by rfl, rfl⟩) ?_
            try simp only [Act.put, List.setIfInBounds_toArray, List.set_cons_zero, List.set_cons_succ]
            refine tk 52 69 undef hHeld rfl (by kernel_rfl) (by kernel_rfl) (by kernel_rfl) (fun _ _ _ h => h) (Or.inr ⟨by rfl, rfl⟩) ?_
            try simp only [Act.put, List.setIfInBounds_toArray, List.set_cons_zero, List.set_cons_succ]
            refine tk 53 70 undef hHeld rfl (by kernel_rfl) (by kernel_rfl) (by kernel_rfl) (fun _ _ _ h => h) (Or.inr ⟨by rfl, rfl⟩) ?_
            try simp only [Act.put, List.setIfInBounds_toArray, List.set_cons_zero, List.set_cons_succ]
            refine tk 54 71 undef hHeld rfl (by kernel_rfl) (by kernel_rfl) (by kernel_rfl) (fun _ _ _ h => h) (Or.inr ⟨by rfl, rfl⟩) ?_
            try simp only [Act.put, List.setIfInBounds_toArray, List.set_cons_zero, List.set_cons_succ]
            refine tk 55 72 undef hHeld rfl (by kernel_rfl) (by kernel_rfl) (by kernel_rfl) (fun _ _ _ h => h) (Or.inr ⟨by rfl, rfl⟩) ?_
            try simp only [Act.put, List.setIfInBounds_toArray, List.set_cons_zero, List.set_cons_succ]
            refine tk 56 73 undef hHeld rfl (by kernel_rfl) (by kernel_rfl) (by kernel_rfl) (fun _ _ _ h => h) (Or.inr ⟨by rfl, rfl⟩) ?_
            try simp only [Act.put, List.setIfInBounds_toArray, List.set_cons_zero, List.set_cons_succ]
            refine tk 57 74 undef hHeld rfl (by kernel_rfl) (by kernel_rfl) (by kernel_rfl) (fun _ _ _ h => h) (Or.inr ⟨by rfl, rfl⟩) ?_
            try simp only [Act.put, List.setIfInBounds_toArray, List.set_cons_zero, List.set_cons_succ]
            refine tk 58 75 undef hHeld rfl (by kernel_rfl) (by kernel_rfl) (by kernel_rfl) (fun _ _ _ h => h) (Or.inr ⟨by rfl, rfl⟩) ?_
            try simp only [Act.put, List.setIfInBounds_toArray, List.set_cons_zero, List.set_cons_succ]
            refine tk 59 76 undef hHeld rfl (by kernel_rfl) (by kernel_rfl) (by kernel_rfl) (fun _ _ _ h => h) (Or.inr ⟨by rfl, rfl⟩) ?_
            try simp only [Act.put, List.setIfInBounds_toArray, List.set_cons_zero, List.set_cons_succ]
            refine tk 60 77 undef hHeld rfl (by kernel_rfl) (by kernel_rfl) (by kernel_rfl) (fun _ _ _ h => h) (Or.inr ⟨by rfl, rfl⟩) ?_
            try simp only [Act.put, List.setIfInBounds_toArray, List.set_cons_zero, List.set_cons_succ]
            refine tk 61 78 undef hHeld rfl (by kernel_rfl) (by kernel_rfl) (by kernel_rfl) (fun _ _ _ h => h) (Or.inr ⟨by rfl, rfl⟩) ?_
            try simp only [Act.put, List.setIfInBounds_toArray, List.set_cons_zero, List.set_cons_succ]
            refine tk 62 79 undef hHeld rfl (by kernel_rfl) (by kernel_rfl) (by kernel_rfl) (fun _ _ _ h => h) (Or.inr ⟨by rfl, rfl⟩) ?_
            try simp only [Act.put, List.setIfInBounds_toArray, List.set_cons_zero, List.set_cons_succ]
            refine tk 63 80 (.bool true) hHeld rfl (by kernel_rfl) (by kernel_rfl) (by kernel_rfl) (fun _ _ _ h => h) (Or.inl ⟨by rfl, ?_⟩) ?_
            · rintro w ⟨⟨p0, p1, p2, p3, p4⟩, q0, q1, q2, q3, q4⟩
              go_simp <;> (first | done | assumption | omega | (intro _; omega))
            try simp only [Act.put, List.setIfInBounds_toArray, List.set_cons_zero, List.set_cons_succ]
            refine wpAnyH_done (by kernel_rfl) ?_ _
            go_wp2_with fail
            go_ret
            exact ⟨_, rfl, HX.out, below_next HW.out (Below.refl _ _).drew⟩
        · have hbe := str_no hnm
          have HX := hide (show false = true ↔ es = fs from ⟨fun e => Bool.noConfusion e, fun e => absurd e (ne_atN HX1.out HX2.out (fun e9 => hnm (by rw [e9])))⟩)
          go_wp2_with fail
          clear p0 p1 p2 p3 p4 q0 q1 q2 q3 q4
          refine wp_region_held_drew (S := fun u : World => (u.cell? ⟨b1, o1 + k * 5, none⟩ = some (.string (str s.name)) ∧ u.cell? ⟨b1, o1 + k * 5 + 1, none⟩ = some (.string (str s.parent)) ∧ u.cell? ⟨b1, o1 + k * 5 + 2, none⟩ = some (.int .i64 s.kind) ∧ u.cell? ⟨b1, o1 + k * 5 + 3, none⟩ = some (.bool s.lease) ∧ u.cell? ⟨b1, o1 + k * 5 + 4, none⟩ = some (.slice x s.layer.length cc)) ∧ (u.cell? ⟨b2, o2 + k * 5, none⟩ = some (.string (str t.name)) ∧ u.cell? ⟨b2, o2 + k * 5 + 1, none⟩ = some (.string (str t.parent)) ∧ u.cell? ⟨b2, o2 + k * 5 + 2, none⟩ = some (.int .i64 t.kind) ∧ u.cell? ⟨b2, o2 + k * 5 + 3, none⟩ = some (.bool t.lease) ∧ u.cell? ⟨b2, o2 + k * 5 + 4, none⟩ = some (.slice y t.layer.length dd))) (by kernel_rfl) (KC.out _ (Below.refl _ _).drew) (fun hHeld => ?_)
          change wpAnyH _ _ _ _ _ _ (Array.replicate _ false) _ _
          refine tk 0 17 (.slice (some ⟨b1, o1, none⟩) es.length c) hHeld rfl (by kernel_rfl) (by kernel_rfl) (by kernel_rfl) (fun _ _ _ h => h) (Or.inl ⟨by rfl, ?_⟩) ?_
          · rintro w ⟨⟨p0, p1, p2, p3, p4⟩, q0, q1, q2, q3, q4⟩
            go_simp <;> (first | done | assumption | omega | (intro _; omega))
          try simp only [Act.put, List.setIfInBounds_toArray, List.set_cons_zero, List.set_cons_succ]
          refine tk 1 18 (.int .i64 k) hHeld rfl (by kernel_rfl) (by kernel_rfl) (by kernel_rfl) (fun _ _ _ h => h) (Or.inl ⟨by rfl, ?_⟩) ?_
          · rintro w ⟨⟨p0, p1, p2, p3, p4⟩, q0, q1, q2, q3, q4⟩
            go_simp <;> (first | done | assumption | omega | (intro _; omega))
          try simp only [Act.put, List.setIfInBounds_toArray, List.set_cons_zero, List.set_cons_succ]
          refine tk 2 19 (.pointer (some ⟨b1, o1 + k * 5, none⟩)) hHeld rfl (by kernel_rfl) (by kernel_rfl) (by kernel_rfl) (fun _ _ _ h => h) (Or.inl ⟨by rfl, ?_⟩) ?_
          · rintro w ⟨⟨p0, p1, p2, p3, p4⟩, q0, q1, q2, q3, q4⟩
            go_simp <;> (first | done | assumption | omega | (intro _; omega))
          try simp only [Act.put, List.setIfInBounds_toArray, List.set_cons_zero, List.set_cons_succ]
          refine tk 3 20 (.pointer (some ⟨b1, o1 + k * 5, none⟩)) hHeld rfl (by kernel_rfl) (by kernel_rfl) (by kernel_rfl) (fun _ _ _ h => h) (Or.inl ⟨by rfl, ?_⟩) ?_
          · rintro w ⟨⟨p0, p1, p2, p3, p4⟩, q0, q1, q2, q3, q4⟩
            go_simp <;> (first | done | assumption | omega | (intro _; omega))
          try simp only [Act.put, List.setIfInBounds_toArray, List.set_cons_zero, List.set_cons_succ]
          refine tk 4 21 (.string (str s.name)) hHeld rfl (by kernel_rfl) (by kernel_rfl) (by kernel_rfl) (fun _ _ _ h => h) (Or.inl ⟨by rfl, ?_⟩) ?_
          · rintro w ⟨⟨p0, p1, p2, p3, p4⟩, q0, q1, q2, q3, q4⟩
            go_simp <;> (first | done | assumption | omega | (intro _; omega))
          try simp only [Act.put, List.setIfInBounds_toArray, List.set_cons_zero, List.set_cons_succ]
          refine tk 5 22 (.slice (some ⟨b2, o2, none⟩) fs.length d) hHeld rfl (by kernel_rfl) (by kernel_rfl) (by kernel_rfl) (fun _ _ _ h => h) (Or.inl ⟨by rfl, ?_⟩) ?_
          · rintro w ⟨⟨p0, p1, p2, p3, p4⟩, q0, q1, q2, q3, q4⟩
            go_simp <;> (first | done | assumption | omega | (intro _; omega))
          try simp only [Act.put, List.setIfInBounds_toArray, List.set_cons_zero, List.set_cons_succ]
          refine tk 6 23 (.int .i64 k) hHeld rfl (by kernel_rfl) (by kernel_rfl) (by kernel_rfl) (fun _ _ _ h => h) (Or.inl ⟨by rfl, ?_⟩) ?_
          · rintro w ⟨⟨p0, p1, p2, p3, p4⟩, q0, q1, q2, q3, q4⟩
            go_simp <;> (first | done | assumption | omega | (intro _; omega))
          try simp only [Act.put, List.setIfInBounds_toArray, List.set_cons_zero, List.set_cons_succ]
          refine tk 7 24 (.pointer (some ⟨b2, o2 + k * 5, none⟩)) hHeld rfl (by kernel_rfl) (by kernel_rfl) (by kernel_rfl) (fun _ _ _ h => h) (Or.inl ⟨by rfl, ?_⟩) ?_
          · rintro w ⟨⟨p0, p1, p2, p3, p4⟩, q0, q1, q2, q3, q4⟩
            go_simp <;> (first | done | assumption | omega | (intro _; omega))
          try simp only [Act.put, List.setIfInBounds_toArray, List.set_cons_zero, List.set_cons_succ]
          refine tk 8 25 (.pointer (some ⟨b2, o2 + k * 5, none⟩)) hHeld rfl (by kernel_rfl) (by kernel_rfl) (by kernel_rfl) (fun _ _ _ h => h) (Or.inl ⟨by rfl, ?_⟩) ?_
          · rintro w ⟨⟨p0, p1, p2, p3, p4⟩, q0, q1, q2, q3, q4⟩
            go_simp <;> (first | done | assumption | omega | (intro _; omega))
          try simp only [Act.put, List.setIfInBounds_toArray, List.set_cons_zero, List.set_cons_succ]
          refine tk 9 26 (.string (str t.name)) hHeld rfl (by kernel_rfl) (by kernel_rfl) (by kernel_rfl) (fun _ _ _ h => h) (Or.inl ⟨by rfl, ?_⟩) ?_
          · rintro w ⟨⟨p0, p1, p2, p3, p4⟩, q0, q1, q2, q3, q4⟩
            go_simp <;> (first | done | assumption | omega | (intro _; omega))
          try simp only [Act.put, List.setIfInBounds_toArray, List.set_cons_zero, List.set_cons_succ]
          refine tk 10 27 (.bool true) hHeld rfl (by kernel_rfl) (by kernel_rfl) (by kernel_rfl) (fun _ _ _ h => h) (Or.inl ⟨by rfl, ?_⟩) ?_
          · rintro w ⟨⟨p0, p1, p2, p3, p4⟩, q0, q1, q2, q3, q4⟩
            go_simp <;> (first | done | assumption | omega | (intro _; omega))
          try simp only [Act.put, List.setIfInBounds_toArray, List.set_cons_zero, List.set_cons_succ]
          refine tk 11 28 (.bool true) hHeld rfl (by kernel_rfl) (by kernel_rfl) (by kernel_rfl) (fun _ _ _ h => h) (Or.inl ⟨by rfl, ?_⟩) ?_
          · rintro w ⟨⟨p0, p1, p2, p3, p4⟩, q0, q1, q2, q3, q4⟩
            go_simp <;> (first | done | assumption | omega | (intro _; omega))
          try simp only [Act.put, List.setIfInBounds_toArray, List.set_cons_zero, List.set_cons_succ]
          refine tk 12 29 undef hHeld rfl (by kernel_rfl) (by kernel_rfl) (by kernel_rfl) (fun _ _ _ h => h) (Or.inr ⟨by rfl, rfl⟩) ?_
          try simp only [Act.put, List.setIfInBounds_toArray, List.set_cons_zero, List.set_cons_succ]
          refine tk 13 30 undef hHeld rfl (by kernel_rfl) (by kernel_rfl) (by kernel_rfl) (fun _ _ _ h => h) (Or.inr ⟨by rfl, rfl⟩) ?_
          try simp only [Act.put, List.setIfInBounds_toArray, List.set_cons_zero, List.set_cons_succ]
          refine tk 14 31 undef hHeld rfl (by kernel_rfl) (by kernel_rfl) (by kernel_rfl) (fun _ _ _ h => h) (Or.inr ⟨by rfl, rfl⟩) ?_
          try simp only [Act.put, List.setIfInBounds_toArray, List.set_cons_zero, List.set_cons_succ]
          refine tk 15 32 undef hHeld rfl (by kernel_rfl) (by kernel_rfl) (by kernel_rfl) (fun _ _ _ h => h) (Or.inr ⟨by rfl, rfl⟩) ?_
          try simp only [Act.put, List.setIfInBounds_toArray, List.set_cons_zero, List.set_cons_succ]
          refine tk 16 33 undef hHeld rfl (by kernel_rfl) (by kernel_rfl) (by kernel_rfl) (fun _ _ _ h => h) (Or.inr ⟨by rfl, rfl⟩) ?_
          try simp only [Act.put, List.setIfInBounds_toArray, List.set_cons_zero, List.set_cons_succ]
          refine tk 17 34 undef hHeld rfl (by kernel_rfl) (by kernel_rfl) (by kernel_rfl) (fun _ _ _ h => h) (Or.inr ⟨by rfl, rfl⟩) ?_
          try simp only [Act.put, List.setIfInBounds_toArray, List.set_cons_zero, List.set_cons_succ]
          refine tk 18 35 undef hHeld rfl (by kernel_rfl) (by kernel_rfl) (by kernel_rfl) (fun _ _ _ h => h) (Or.inr ⟨by rfl, rfl⟩) ?_
          try simp only [Act.put, List.setIfInBounds_toArray, List.set_cons_zero, List.set_cons_succ]
          refine tk 19 36 undef hHeld rfl (by kernel_rfl) (by kernel_rfl) (by kernel_rfl) (fun _ _ _ h => h) (Or.inr ⟨by rfl, rfl⟩) ?_
          try simp only [Act.put, List.setIfInBounds_toArray, List.set_cons_zero, List.set_cons_succ]
          refine tk 20 37 undef hHeld rfl (by kernel_rfl) (by kernel_rfl) (by kernel_rfl) (fun _ _ _ h => h) (Or.inr ⟨by rfl, rfl⟩) ?_
          try simp only [Act.put, List.setIfInBounds_toArray, List.set_cons_zero, List.set_cons_succ]
          refine tk 21 38 undef hHeld rfl (by kernel_rfl) (by kernel_rfl) (by kernel_rfl) (fun _ _ _ h => h) (Or.inr ⟨by rfl, rfl⟩) ?_
          try simp only [Act.put, List.setIfInBounds_toArray, List.set_cons_zero, List.set_cons_succ]
          refine tk 22 39 undef hHeld rfl (by kernel_rfl) (by kernel_rfl) (by kernel_rfl) (fun _ _ _ h => h) (Or.inr ⟨by rfl, rfl⟩) ?_
          try simp only [Act.put, List.setIfInBounds_toArray, List.set_cons_zero, List.set_cons_succ]
          refine tk 23 40 (.bool true) hHeld rfl (by kernel_rfl) (by kernel_rfl) (by kernel_rfl) (fun _ _ _ h => h) (Or.inl ⟨by rfl, ?_⟩) ?_
          · rintro w ⟨⟨p0, p1, p2, p3, p4⟩, q0, q1, q2, q3, q4⟩
            go_simp <;> (first | done | assumption | omega | (intro _; omega))
          try simp only [Act.put, List.setIfInBounds_toArray, List.set_cons_zero, List.set_cons_succ]
          refine tk 24 41 (.bool true) hHeld rfl (by kernel_rfl) (by kernel_rfl) (by kernel_rfl) (fun _ _ _ h => h) (Or.inl ⟨by rfl, ?_⟩) ?_
          · rintro w ⟨⟨p0, p1, p2, p3, p4⟩, q0, q1, q2, q3, q4⟩
            go_simp <;> (first | done | assumption | omega | (intro _; omega))
          try simp only [Act.put, List.setIfInBounds_toArray, List.set_cons_zero, List.set_cons_succ]
          refine tk 25 42 undef hHeld rfl (by kernel_rfl) (by kernel_rfl) (by kernel_rfl) (fun _ _ _ h => h) (Or.inr ⟨by rfl, rfl⟩) ?_
          try simp only [Act.put, List.setIfInBounds_toArray, List.set_cons_zero, List.set_cons_succ]
          refine tk 26 43 undef hHeld rfl (by kernel_rfl) (by kernel_rfl) (by kernel_rfl) (fun _ _ _ h => h) (Or.inr ⟨by rfl, rfl⟩) ?_
          try simp only [Act.put, List.setIfInBounds_toArray, List.set_cons_zero, List.set_cons_succ]
          refine tk 27 44 undef hHeld rfl (by kernel_rfl) (by kernel_rfl) (by kernel_rfl) (fun _ _ _ h => h) (Or.inr ⟨by rfl, rfl⟩) ?_
          try simp only [Act.put, List.setIfInBounds_toArray, List.set_cons_zero, List.set_cons_succ]
          refine tk 28 45 undef hHeld rfl (by kernel_rfl) (by kernel_rfl) (by kernel_rfl) (fun _ _ _ h => h) (Or.inr ⟨by rfl, rfl⟩) ?_
          try simp only [Act.put, List.setIfInBounds_toArray, List.set_cons_zero, List.set_cons_succ]
          refine tk 29 46 undef hHeld rfl (by kernel_rfl) (by kernel_rfl) (by kernel_rfl) (fun _ _ _ h => h) (Or.inr ⟨by rfl, rfl⟩) ?_
          try simp only [Act.put, List.setIfInBounds_toArray, List.set_cons_zero, List.set_cons_succ]
          refine tk 30 47 undef hHeld rfl (by kernel_rfl) (by kernel_rfl) (by kernel_rfl) (fun _ _ _ h => h) (Or.inr ⟨by rfl, rfl⟩) ?_
          try simp only [Act.put, List.setIfInBounds_toArray, List.set_cons_zero, List.set_cons_succ]
          refine tk 31 48 undef hHeld rfl (by kernel_rfl) (by kernel_rfl) (by kernel_rfl) (fun _ _ _ h => h) (Or.inr ⟨by rfl, rfl⟩) ?_
          try simp only [Act.put, List.setIfInBounds_toArray, List.set_cons_zero, List.set_cons_succ]
          refine tk 32 49 undef hHeld rfl (by kernel_rfl) (by kernel_rfl) (by kernel_rfl) (fun _ _ _ h => h) (Or.inr ⟨by rfl, rfl⟩) ?_
          try simp only [Act.put, List.setIfInBounds_toArray, List.set_cons_zero, List.set_cons_succ]
          refine tk 33 50 undef hHeld rfl (by kernel_rfl) (by kernel_rfl) (by kernel_rfl) (fun _ _ _ h => h) (Or.inr ⟨by rfl, rfl⟩) ?_
          try simp only [Act.put, List.setIfInBounds_toArray, List.set_cons_zero, List.set_cons_succ]
          refine tk 34 51 undef hHeld rfl (by kernel_rfl) (by kernel_rfl) (by kernel_rfl) (fun _ _ _ h => h) (Or.inr ⟨by rfl, rfl⟩) ?_
          try simp only [Act.put, List.setIfInBounds_toArray, List.set_cons_zero, List.set_cons_succ]
          refine tk 35 52 undef hHeld rfl (by kernel_rfl) (by kernel_rfl) (by kernel_rfl) (fun _ _ _ h => h) (Or.inr ⟨by rfl, rfl⟩) ?_
          try simp only [Act.put, List.setIfInBounds_toArray, List.set_cons_zero, List.set_cons_succ]
          refine tk 36 53 (.bool true) hHeld rfl (by kernel_rfl) (by kernel_rfl) (by kernel_rfl) (fun _ _ _ h => h) (Or.inl ⟨by rfl, ?_⟩) ?_
          · rintro w ⟨⟨p0, p1, p2, p3, p4⟩, q0, q1, q2, q3, q4⟩
            go_simp <;> (first | done | assumption | omega | (intro _; omega))
          try simp only [Act.put, List.setIfInBounds_toArray, List.set_cons_zero, List.set_cons_succ]
          refine tk 37 54 (.bool true) hHeld rfl (by kernel_rfl) (by kernel_rfl) (by kernel_rfl) (fun _ _ _ h => h) (Or.inl ⟨by rfl, ?_⟩) ?_
          · rintro w ⟨⟨p0, p1, p2, p3, p4⟩, q0, q1, q2, q3, q4⟩
            go_simp <;> (first | done | assumption | omega | (intro _; omega))
          try simp only [Act.put, List.setIfInBounds_toArray, List.set_cons_zero, List.set_cons_succ]
          refine tk 38 55 undef hHeld rfl (by kernel_rfl) (by kernel_rfl) (by kernel_rfl) (fun _ _ _ h => h) (Or.inr ⟨by rfl, rfl⟩) ?_
          try simp only [Act.put, List.setIfInBounds_toArray, List.set_cons_zero, List.set_cons_succ]
          refine tk 39 56 undef hHeld rfl (by kernel_rfl) (by kernel_rfl) (by kernel_rfl) (fun _ _ _ h => h) (Or.inr ⟨by rfl, rfl⟩) ?_
          try simp only [Act.put, List.setIfInBounds_toArray, List.set_cons_zero, List.set_cons_succ]
          refine tk 40 57 undef hHeld rfl (by kernel_rfl) (by kernel_rfl) (by kernel_rfl) (fun _ _ _ h => h) (Or.inr ⟨by rfl, rfl⟩) ?_
          try simp only [Act.put, List.setIfInBounds_toArray, List.set_cons_zero, List.set_cons_succ]
          refine tk 41 58 undef hHeld rfl (by kernel_rfl) (by kernel_rfl) (by kernel_rfl) (fun _ _ _ h => h) (Or.inr ⟨by rfl, rfl⟩) ?_
          try simp only [Act.put, List.setIfInBounds_toArray, List.set_cons_zero, List.set_cons_succ]
          refine tk 42 59 undef hHeld rfl (by kernel_rfl) (by kernel_rfl) (by kernel_rfl) (fun _ _ _ h => h) (Or.inr ⟨by rfl, rfl⟩) ?_
          try simp only [Act.put, List.setIfInBounds_toArray, List.set_cons_zero, List.set_cons_succ]
          refine tk 43 60 undef hHeld rfl (by kernel_rfl) (by kernel_rfl) (by kernel_rfl) (fun _ _ _ h => h) (Or.inr ⟨by rfl, rfl⟩) ?_
          try simp only [Act.put, List.setIfInBounds_toArray, List.set_cons_zero, List.set_cons_succ]
          refine tk 44 61 undef hHeld rfl (by kernel_rfl) (by kernel_rfl) (by kernel_rfl) (fun _ _ _ h => h) (Or.inr ⟨by rfl, rfl⟩) ?_
          try simp only [Act.put, List.setIfInBounds_toArray, List.set_cons_zero, List.set_cons_succ]
          refine tk 45 62 undef hHeld rfl (by kernel_rfl) (by kernel_rfl) (by kernel_rfl) (fun _ _ _ h => h) (Or.inr ⟨by rfl, rfl⟩) ?_
          try simp only [Act.put, List.setIfInBounds_toArray, List.set_cons_zero, List.set_cons_succ]
          refine tk 46 63 undef hHeld rfl (by kernel_rfl) (by kernel_rfl) (by kernel_rfl) (fun _ _ _ h => h) (Or.inr ⟨by rfl, rfl⟩) ?_
          try simp only [Act.put, List.setIfInBounds_toArray, List.set_cons_zero, List.set_cons_succ]
          refine tk 47 64 undef hHeld rfl (by kernel_rfl) (by kernel_rfl) (by kernel_rfl) (fun _ _ _ h => h) (Or.inr ⟨by rfl, rfl⟩) ?_
          try simp only [Act.put, List.setIfInBounds_toArray, List.set_cons_zero, List.set_cons_succ]
          refine tk 48 65 undef hHeld rfl (by kernel_rfl) (by kernel_rfl) (by kernel_rfl) (fun _ _ _ h => h) (Or.inr ⟨by rfl, rfl⟩) ?_
          try simp only [Act.put, List.setIfInBounds_toArray, List.set_cons_zero, List.set_cons_succ]
          refine tk 49 66 (.bool true) hHeld rfl (by kernel_rfl) (by kernel_rfl) (by kernel_rfl) (fun _ _ _ h => h) (Or.inl ⟨by rfl, ?_⟩) ?_
          · rintro w ⟨⟨p0, p1, p2, p3, p4⟩, q0, q1, q2, q3, q4⟩
            go_simp <;> (first | done | assumption | omega | (intro _; omega))
          try simp only [Act.put, List.setIfInBounds_toArray, List.set_cons_zero, List.set_cons_succ]
          refine tk 50 67 (.bool true) hHeld rfl (by kernel_rfl) (by kernel_rfl) (by kernel_rfl) (fun _ _ _ h => h) (Or.inl ⟨by rfl, ?_⟩) ?_
          · rintro w ⟨⟨p0, p1, p2, p3, p4⟩, q0, q1, q2, q3, q4⟩
            go_simp <;> (first | done | assumption | omega | (intro _; omega))
          try simp only [Act.put, List.setIfInBounds_toArray, List.set_cons_zero, List.set_cons_succ]
          refine tk 51 68 undef hHeld rfl (by kernel_rfl) (by kernel_rfl) (by kernel_rfl) (fun _ _ _ h => h) (Or.inr ⟨by rfl, rfl⟩) ?_
          try simp only [Act.put, List.setIfInBounds_toArray, List.set_cons_zero, List.set_cons_succ]
          refine tk 52 69 undef hHeld rfl (by kernel_rfl) (by kernel_rfl) (by kernel_rfl) (fun _ _ _ h => h) (Or.inr ⟨by rfl, rfl⟩) ?_
          try simp only [Act.put, List.setIfInBounds_toArray, List.set_cons_zero, List.set_cons_succ]
          refine tk 53 70 undef hHeld rfl (by kernel_rfl) (by kernel_rfl) (by kernel_rfl) (fun _ _ _ h => h) (Or.inr ⟨by rfl, rfl⟩) ?_
          try simp only [Act.put, List.setIfInBounds_toArray, List.set_cons_zero, List.set_cons_succ]
          refine tk 54 71 undef hHeld rfl (by kernel_rfl) (by kernel_rfl) (by kernel_rfl) (fun _ _ _ h => h) (Or.inr ⟨by rfl, rfl⟩) ?_
          try simp only [Act.put, List.setIfInBounds_toArray, List.set_cons_zero, List.set_cons_succ]
          refine tk 55 72 undef hHeld rfl (by kernel_rfl) (by kernel_rfl) (by kernel_rfl) (fun _ _ _ h => h) (Or.inr ⟨by rfl, rfl⟩) ?_
          try simp only [Act.put, List.setIfInBounds_toArray, List.set_cons_zero, List.set_cons_succ]
          refine tk 56 73 undef hHeld rfl (by kernel_rfl) (by kernel_rfl) (by kernel_rfl) (fun _ _ _ h => h) (Or.inr ⟨by rfl, rfl⟩) ?_
          try simp only [Act.put, List.setIfInBounds_toArray, List.set_cons_zero, List.set_cons_succ]
          refine tk 57 74 undef hHeld rfl (by kernel_rfl) (by kernel_rfl) (by kernel_rfl) (fun _ _ _ h => h) (Or.inr ⟨by rfl, rfl⟩) ?_
          try simp only [Act.put, List.setIfInBounds_toArray, List.set_cons_zero, List.set_cons_succ]
          refine tk 58 75 undef hHeld rfl (by kernel_rfl) (by kernel_rfl) (by kernel_rfl) (fun _ _ _ h => h) (Or.inr ⟨by rfl, rfl⟩) ?_
          try simp only [Act.put, List.setIfInBounds_toArray, List.set_cons_zero, List.set_cons_succ]
          refine tk 59 76 undef hHeld rfl (by kernel_rfl) (by kernel_rfl) (by kernel_rfl) (fun _ _ _ h => h) (Or.inr ⟨by rfl, rfl⟩) ?_
          try simp only [Act.put, List.setIfInBounds_toArray, List.set_cons_zero, List.set_cons_succ]
          refine tk 60 77 undef hHeld rfl (by kernel_rfl) (by kernel_rfl) (by kernel_rfl) (fun _ _ _ h => h) (Or.inr ⟨by rfl, rfl⟩) ?_
          try simp only [Act.put, List.setIfInBounds_toArray, List.set_cons_zero, List.set_cons_succ]
          refine tk 61 78 undef hHeld rfl (by kernel_rfl) (by kernel_rfl) (by kernel_rfl) (fun _ _ _ h => h) (Or.inr ⟨by rfl, rfl⟩) ?_
          try simp only [Act.put, List.setIfInBounds_toArray, List.set_cons_zero, List.set_cons_succ]
          refine tk 62 79 undef hHeld rfl (by kernel_rfl) (by kernel_rfl) (by kernel_rfl) (fun _ _ _ h => h) (Or.inr ⟨by rfl, rfl⟩) ?_
          try simp only [Act.put, List.setIfInBounds_toArray, List.set_cons_zero, List.set_cons_succ]
          refine tk 63 80 (.bool true) hHeld rfl (by kernel_rfl) (by kernel_rfl) (by kernel_rfl) (fun _ _ _ h => h) (Or.inl ⟨by rfl, ?_⟩) ?_
          · rintro w ⟨⟨p0, p1, p2, p3, p4⟩, q0, q1, q2, q3, q4⟩
            go_simp <;> (first | done | assumption | omega | (intro _; omega))
          try simp only [Act.put, List.setIfInBounds_toArray, List.set_cons_zero, List.set_cons_succ]
          refine wpAnyH_done (by kernel_rfl) ?_ _
          go_wp2_with fail
          go_ret
          exact ⟨_, rfl, HX.out, below_next HW.out (Below.refl _ _).drew⟩
      · have hke : k = es.length := by omega
        have HE := hide (show es = fs from take_whole HT.out (by omega) (by have := HL.out; omega))
        have hkn : ¬ (k : Int) < (es.length : Int) := by omega
        clear hke
        go_wp2_with fail
        go_ret
        exact ⟨_, rfl, ⟨fun _ => HE.out, fun _ => rfl⟩, HW.out⟩
  · have hne : ((es.length : Int) != (fs.length : Int)) = true := by simp; omega
    have HE := hide (show false = true ↔ es = fs from ⟨fun e => Bool.noConfusion e, fun e => absurd (by rw [e]) hlen⟩)
    clear hlen
    go_enter Try.func12, Try.ntmps12
    go_wp2_with fail
    go_ret
    exact ⟨_, rfl, HE.out, Below.refl _ _⟩
end Go.Proofs.Ytfamojijgjmcmaa

