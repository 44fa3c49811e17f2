/-
  The model's SameLayers.
-/
import Derived.Test.YtjcjdedkedafbaaGreatJ1
namespace Go.Proofs.YtjcjdedkedafbaaGreat
open Go.RowKit Go.Maps
set_option linter.unusedVariables false

theorem En.same {e f : En} (h0 : e.path = f.path) (h1 : e.kind = f.kind) (h2 : e.size = f.size) (h3 : e.chunks = f.chunks) : e = f := by
  cases e; cases f; simp_all
theorem ne_at {es fs : List En} {j : Nat} {e f : En} (he : es[j]? = some e) (hf : fs[j]? = some f) (h : e ≠ f) : decide (es = fs) = false := by
  apply decide_eq_false
  intro e1
  rw [e1, hf] at he
  exact h (Option.some.inj he).symm
theorem take_both {α : Type} {es fs : List α} {j : Nat} {e f : α} (he : es[j]? = some e) (hf : fs[j]? = some f) (h : es.take j = fs.take j) (hx : e = f) : es.take (j + 1) = fs.take (j + 1) := by
  rw [take_snoc_at he, take_snoc_at hf, h, hx]
theorem take_whole {α : Type} {es fs : List α} {j : Nat} (h : es.take j = fs.take j) (h1 : es.length ≤ j) (h2 : fs.length ≤ j) : es = fs := by
  rwa [List.take_of_length_le h1, List.take_of_length_le h2] at h
theorem getD_at {zs : List Int} {k : Nat} (h : k < zs.length) : zs[k]? = some (zs.getD k 0) := by rw [List.getD_eq_getElem?_getD, List.getElem?_eq_getElem h]; rfl

set_option maxRecDepth 100000 in
set_option maxHeartbeats 6400000 in
theorem l4Same_any (a b : Option Addr) (c d n m : Nat) (es fs : List En) (w : World) (h : RdE w a es) (h2 : RdE w b fs) (hn : n = es.length) (hm : m = fs.length) (hl : es.length ≤ 1048576) (hl2 : fs.length ≤ 1048576) (hs : SmallE es) (hs2 : SmallE fs) :
    Calls Tryz.prog 61 #[.slice a n c, .slice b m d] w fun r w' => r = .returned (.bool (decide (es = fs))) ∧ Below w.heap.size w w' := by
  subst hn
  subst hm
  have HA := hide h
  have HB := hide h2
  have HS := hide hs
  have HS2 := hide hs2
  clear h h2 hs hs2
  by_cases hq : es.length = fs.length
  · have hq2 : ((es.length : Int) != (fs.length : Int)) = false := by simp; omega
    go_enter Tryz.func61, Tryz.ntmps61
    have HQ := hide hq
    clear hq
    go_wp2_with fail
    go_loopw [5] (fun i wr => ∃ j : Nat, j ≤ es.length ∧ i = .int .i64 j ∧ Hid (es.take j = fs.take j) ∧ Hid (Below w.heap.size w wr)) (fun i _ => es.length - (intOf i).toNat)
    case atStart => exact ⟨0, Nat.zero_le _, rfl, hide rfl, hide (Below.refl _ _)⟩
    case round =>
      obtain ⟨j, hj, rfl, HT, HW⟩ := hrel
      by_cases hlt : j < es.length
      · have hlt2 : j < fs.length := by have := HQ.out; omega
        obtain ⟨b1, o1, e, x1, cc1, rfl, hb1, he, c0, c1, c2, c3, hr⟩ := (HA.out.below HW.out).at hlt
        obtain ⟨b2, o2, f, x2, cc2, rfl, hb2, hf, d0, d1, d2, d3, hr2⟩ := (HB.out.below HW.out).at hlt2
        have HE := hide he
        have HF := hide hf
        have HR := hide hr
        have HR2 := hide hr2
        have hsm := HS.out e (List.mem_of_getElem? he)
        have hsm2 := HS2.out f (List.mem_of_getElem? hf)
        have HN := hide (fun (hx : e ≠ f) => ne_at he hf hx)
        clear he hf hr hr2
        have hj2 : (j : Int) < (fs.length : Int) := by omega
        by_cases q0 : e.path = f.path
        · have s0 := str_yes q0
          by_cases q1 : e.kind = f.kind
          · have s1 : (e.kind != f.kind) = false := by simp; exact q1
            by_cases q2 : e.size = f.size
            · have s2 : (e.size != f.size) = false := by simp; exact q2
              by_cases q3 : e.chunks.length = f.chunks.length
              · have s3 : ((e.chunks.length : Int) != (f.chunks.length : Int)) = false := by simp; omega
                have Q0 := hide q0
                have Q1 := hide q1
                have Q2 := hide q2
                have Q3 := hide q3
                clear q0 q1 q2 q3
                go_wp2_with fail
                go_quiet (fail)
                have HW1 := hide (below_drewN HW.out nq)
                have e3 : (wr.drewN nq).cell? ⟨b1, o1 + j * 4 + 3, none⟩ = some (.slice x1 e.chunks.length cc1) := ((below_drewN (Below.refl wr.heap.size wr) nq).cell (p := ⟨b1, o1 + j * 4 + 3, none⟩) hb1).trans c3
                have f3 : (wr.drewN nq).cell? ⟨b2, o2 + j * 4 + 3, none⟩ = some (.slice x2 f.chunks.length cc2) := ((below_drewN (Below.refl wr.heap.size wr) nq).cell (p := ⟨b2, o2 + j * 4 + 3, none⟩) hb2).trans d3
                have R1 := hide (HR.out.below (below_drewN (Below.refl wr.heap.size wr) nq))
                have R2 := hide (HR2.out.below (below_drewN (Below.refl wr.heap.size wr) nq))
                have hb1 : b1 < (wr.drewN nq).heap.size := Nat.lt_of_lt_of_le hb1 (below_drewN (Below.refl wr.heap.size wr) nq).size
                have hb2 : b2 < (wr.drewN nq).heap.size := Nat.lt_of_lt_of_le hb2 (below_drewN (Below.refl wr.heap.size wr) nq).size
                clear c0 c1 c2 c3 d0 d1 d2 d3 HR HR2 HW s0 s1 s2 s3
                generalize wr.drewN nq = W at *
                go_wp2_with fail
                go_loopw [6] (fun i w2 => ∃ k : Nat, k ≤ e.chunks.length ∧ i = .int .i64 k ∧ Hid (e.chunks.take k = f.chunks.take k) ∧ Hid (Below W.heap.size W w2)) (fun i _ => e.chunks.length - (intOf i).toNat)
                case atStart => exact ⟨0, Nat.zero_le _, rfl, hide rfl, hide (Below.refl _ _)⟩
                case round =>
                  obtain ⟨k, hk, rfl, HT2, HW2⟩ := hrel
                  have g3 := (HW2.out.cell (p := ⟨b1, o1 + j * 4 + 3, none⟩) hb1).trans e3
                  have k3 := (HW2.out.cell (p := ⟨b2, o2 + j * 4 + 3, none⟩) hb2).trans f3
                  by_cases hkl : k < e.chunks.length
                  · have hkl2 : k < f.chunks.length := by have := Q3.out; omega
                    obtain ⟨p1, r1, rfl, hp1, hy1⟩ := (R1.out.below HW2.out) (by intro e; simp [e] at hkl)
                    obtain ⟨p2, r2, rfl, hp2, hy2⟩ := (R2.out.below HW2.out) (by intro e; simp [e] at hkl2)
                    have y1 := hy1 k hkl
                    have y2 := hy2 k hkl2
                    have z1 := getD_at hkl
                    have z2 := getD_at hkl2
                    generalize e.chunks.getD k 0 = u at y1 z1
                    generalize f.chunks.getD k 0 = v at y2 z2
                    have Z1 := hide z1
                    have Z2 := hide z2
                    clear hy1 hy2 z1 z2
                    have hkl3 : (k : Int) < (f.chunks.length : Int) := by omega
                    by_cases quv : u = v
                    · have suv : (u != v) = false := by simp; exact quv
                      have HO := hide (take_both Z1.out Z2.out HT2.out quv)
                      clear quv
                      go_wp2_with fail
                      go_quiet (fail)
                      go_wp2_with fail
                      go_roundw
                      case rel => exact ⟨k + 1, by omega, by go_num, HO, hide (below_drewN HW2.out nq)⟩
                      case measure => simp [intOf]; omega
                    · have suv : (u != v) = true := by simp; exact quv
                      have HO := hide (HN.out (fun e1 => quv (by have h1 := Z1.out; rw [e1, Z2.out] at h1; exact (Option.some.inj h1).symm)))
                      clear quv
                      go_wp2_with fail
                      go_quiet (fail)
                      go_wp2_with fail
                      go_ret
                      exact ⟨ret_bool HO.out.symm, below_next HW1.out (below_drewN HW2.out nq)⟩
                  · have HO := hide (take_both HE.out HF.out HT.out (En.same Q0.out Q1.out Q2.out (take_whole HT2.out (by omega) (by have := Q3.out; omega))))
                    go_wp2_with fail
                    go_roundw
                    case rel => exact ⟨j + 1, by omega, by go_num, HO, hide (below_next HW1.out HW2.out)⟩
                    case measure => simp [intOf]; omega
              · have s3 : ((e.chunks.length : Int) != (f.chunks.length : Int)) = true := by simp; omega
                have HO := hide (HN.out (fun e1 => q3 (by rw [e1])))
                clear q0 q1 q2 q3
                go_wp2_with fail
                go_quiet (fail)
                go_wp2_with fail
                go_ret
                exact ⟨ret_bool HO.out.symm, below_drewN HW.out nq⟩
            · have s2 : (e.size != f.size) = true := by simp; exact q2
              have HO := hide (HN.out (fun e1 => q2 (by rw [e1])))
              clear q0 q1 q2
              go_wp2_with fail
              go_quiet (fail)
              go_wp2_with fail
              go_ret
              exact ⟨ret_bool HO.out.symm, below_drewN HW.out nq⟩
          · have s1 : (e.kind != f.kind) = true := by simp; exact q1
            have HO := hide (HN.out (fun e1 => q1 (by rw [e1])))
            clear q0 q1
            go_wp2_with fail
            go_quiet (fail)
            go_wp2_with fail
            go_ret
            exact ⟨ret_bool HO.out.symm, below_drewN HW.out nq⟩
        · have s0 := str_no q0
          have HO := hide (HN.out (fun e1 => q0 (by rw [e1])))
          clear q0
          go_wp2_with fail
          go_quiet (fail)
          go_wp2_with fail
          go_ret
          exact ⟨ret_bool HO.out.symm, below_drewN HW.out nq⟩
      · have HO := hide (take_whole HT.out (by omega) (by have := HQ.out; omega))
        go_wp2_with fail
        go_ret
        exact ⟨ret_bool (decide_eq_true HO.out).symm, HW.out⟩
  · have hq2 : ((es.length : Int) != (fs.length : Int)) = true := by simp; omega
    have HO := hide (show decide (es = fs) = false from decide_eq_false (fun e => hq (by rw [e])))
    clear hq
    go_enter Tryz.func61, Tryz.ntmps61
    go_wp2_with fail
    go_ret
    exact ⟨ret_bool HO.out.symm, Below.refl _ _⟩


end Go.Proofs.YtjcjdedkedafbaaGreat
