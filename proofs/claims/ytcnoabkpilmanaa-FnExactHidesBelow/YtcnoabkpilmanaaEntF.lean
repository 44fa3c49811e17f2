/-
  The model's fault of an entry.
-/
import Derived.Test.YtcnoabkpilmanaaEnts
import Derived.Deep.RegionHeld3
import Derived.Handy
namespace Go.Proofs.Ytcnoabkpilmanaa
open Go.RowKit
set_option linter.unusedVariables false

/-- Four cells of a block, that may be written. -/
def Four (w : World) (b : Nat) (u0 u1 u2 u3 : Value) : Prop := w.cell? ⟨b, 0, none⟩ = some u0 ∧ w.cell? ⟨b, 1, none⟩ = some u1 ∧ w.cell? ⟨b, 2, none⟩ = some u2 ∧ w.cell? ⟨b, 3, none⟩ = some u3
theorem Four.new (w : World) (u0 u1 u2 u3 : Value) (t : TypeId) : Four (w.alloc (.cells #[u0, u1, u2, u3] t)) w.heap.size u0 u1 u2 u3 := ⟨by simp, by simp, by simp, by simp⟩
theorem Four.lt {w : World} {b : Nat} {u0 u1 u2 u3 : Value} (h : Four w b u0 u1 u2 u3) : b < w.heap.size := World.block_lt_of_cell? w ⟨b, 0, none⟩ h.1
theorem Four.below {w w' : World} {b : Nat} {u0 u1 u2 u3 : Value} (h : Four w b u0 u1 u2 u3) (hk : Below w.heap.size w w') : Four w' b u0 u1 u2 u3 :=
  ⟨(hk.cell (p := ⟨b, 0, none⟩) h.lt).trans h.1, (hk.cell (p := ⟨b, 1, none⟩) h.lt).trans h.2.1, (hk.cell (p := ⟨b, 2, none⟩) h.lt).trans h.2.2.1, (hk.cell (p := ⟨b, 3, none⟩) h.lt).trans h.2.2.2⟩

theorem l4For_any (n : Int) (w : World) (h0 : 0 ≤ n) (h1 : n ≤ 24) : Calls Try.prog 36 #[.int .i64 n] w fun e w' => e = .returned (.int .i64 ((n + 7) / 8)) ∧ w' = w := by
  have e : (n + 7) / 8 = (n + 8 - 1).tdiv 8 := by rw [Int.tdiv_eq_ediv_of_nonneg (by omega)]; congr 1; omega
  rw [e]
  go_enter Try.func36, Try.ntmps36
  go_wp2
  go_ret
  exact ⟨rfl, rfl⟩

set_option maxRecDepth 100000 in
set_option maxHeartbeats 1600000 in
theorem specEntryFault_any (e : En) (x : Option Addr) (c n : Nat) (w : World) (h : Reads .i64 w x e.chunks) (hn : n = e.chunks.length) (hp : e.path.length ≤ 1048576) (hc : e.chunks.length ≤ 1048576) :
    Calls Try.prog 20 #[.agg #[.string (str e.path), .int .i64 e.kind, .int .i64 e.size, .slice x n c]] w fun r w' => r = .returned (.int .i64 (entFault e)) ∧ Below w.heap.size w w' := by
  subst hn
  have HR := hide h
  clear h
  have HN := hide (below_alloc w (.cells #[.string (str e.path), .int .i64 e.kind, .int .i64 e.size, .slice x e.chunks.length c] 36))
  have HB := hide (Four.new w (.string (str e.path)) (.int .i64 e.kind) (.int .i64 e.size) (.slice x e.chunks.length c) 36)
  by_cases hf : faultP e.path = 0
  · go_enter Try.func20, Try.ntmps20
    go_wp2_with fail
    refine (l3Fault_any _ _ (by rw [str_size]; omega)).mono ?_
    rintro r w1 ⟨rfl, hb1⟩
    rw [str_data, hf]
    have HB1 := hide (below_next HN.out hb1)
    have HR1 := hide (HR.out.below HB1.out)
    have hB := HB.out.below hb1
    clear HB HR HN hb1
    obtain ⟨c0, c1, c2, c3⟩ := hB
    generalize w.heap.size = bk at c0 c1 c2 c3 ⊢
    by_cases hk : 1 ≤ e.kind ∧ e.kind ≤ 4
    · by_cases hk1 : e.kind = 1
      · have hfm : formE e = true := decide_eq_true ⟨hk, Or.inl hk1⟩
        have hkn : (e.kind != 1) = false := by simp [hk1]
        have HK := hide hk1
        clear hk1
        have HI := hide (l1In_yes e.kind 1 4 w1 hk.1 hk.2)
        by_cases hz : 0 ≤ e.size ∧ e.size ≤ 24
        · have HZ := hide (l1In_yes e.size 0 24 w1 hz.1 hz.2)
          have HFo := hide (fun u => l4For_any e.size u hz.1 hz.2)
          by_cases hm : (e.chunks.length : Int) = (e.size + 7) / 8
          · have HE := hide (entFault_digs hf hfm (decide_eq_true hz) (decide_eq_true hm))
            have hmn : ((e.chunks.length : Int) != (e.size + 7) / 8) = false := by simp; exact hm
            clear hfm hf hm
            go_wp2_with fail
            refine HI.out.mono ?_
            rintro r w' ⟨rfl, rfl⟩
            go_wp2_with fail
            refine HZ.out.mono ?_
            rintro r w' ⟨rfl, rfl⟩
            go_wp2_with fail
            go_region_held3 (fun w' => w'.cell? ⟨bk, 2, none⟩ = some (.int .i64 e.size) ∧ w'.cell? ⟨bk, 3, none⟩ = some (.slice x e.chunks.length c)) (first | trivial | go_keep)
              ((first
                | (go_at_call 36; refine (HFo.out _).mono ?_; rintro r w' ⟨rfl, rfl⟩)))
            go_wp2_with fail
            clear hmn
            have d3 : w'.drew.cell? ⟨bk, 3, none⟩ = some (.slice x e.chunks.length c) := c3
            have HR2 := hide (HR1.out.below (Below.refl w'.heap.size w').drew)
            have HB2 := hide HB1.out.drew
            clear c0 c1 c2 c3 HR1 HB1 HI HZ
            generalize w'.drew = W at *
            go_loop [4] (fun i => ∃ k : Nat, k ≤ e.chunks.length ∧ i = .int .i64 k ∧ Hid ((e.chunks.take k).all isDig = true)) (fun i => e.chunks.length - (intOf i).toNat)
            case atStart => exact ⟨0, Nat.zero_le _, rfl, hide (by simp)⟩
            case round =>
              obtain ⟨k, hk, rfl, HA⟩ := hrel
              by_cases hlt : k < e.chunks.length
              · obtain ⟨b, off, rfl, hb1, hcc⟩ := HR2.out (by intro e; simp [e] at hlt)
                have hc1 := hcc k hlt
                have hzk : e.chunks[k]? = some (e.chunks.getD k 0) := by rw [List.getD_eq_getElem?_getD, List.getElem?_eq_getElem hlt]; rfl
                generalize e.chunks.getD k 0 = z at hc1 hzk
                have HZ := hide hzk
                clear hcc hzk
                cases hd : isDig z
                · have HX := hide (show e.chunks.all isDig = false from by rw [List.all_eq_false]; exact ⟨z, List.mem_of_getElem? HZ.out, by simp [hd]⟩)
                  have HD := hide hd
                  clear hd
                  go_wp2_with fail
                  refine (l1Digest_any _ _).mono ?_
                  rintro r w'' ⟨rfl, rfl⟩
                  rw [HD.out]
                  go_wp2_with fail
                  go_ret
                  exact ⟨ret_int (by rw [HE.out, HX.out]; rfl), HB2.out⟩
                · have HX := hide (show (e.chunks.take (k + 1)).all isDig = true from by rw [take_snoc_at HZ.out]; simp [HA.out, hd])
                  have HD := hide hd
                  clear hd
                  go_wp2_with fail
                  refine (l1Digest_any _ _).mono ?_
                  rintro r w'' ⟨rfl, rfl⟩
                  rw [HD.out]
                  go_wp2_with fail
                  go_round
                  case rel => exact ⟨k + 1, by omega, by go_num, HX⟩
                  case measure => simp [intOf]; omega
              · have HX := hide (show e.chunks.all isDig = true from by have := HA.out; rwa [List.take_of_length_le (by omega)] at this)
                go_wp2_with fail
                go_ret
                exact ⟨ret_int (by rw [HE.out, HX.out]; rfl), HB2.out⟩
          · have HE := hide (entFault_many hf hfm (decide_eq_true hz) (decide_eq_false hm))
            have hmn : ((e.chunks.length : Int) != (e.size + 7) / 8) = true := by simp; exact hm
            clear hfm hf hm
            go_wp2_with fail
            refine HI.out.mono ?_
            rintro r w' ⟨rfl, rfl⟩
            go_wp2_with fail
            refine HZ.out.mono ?_
            rintro r w' ⟨rfl, rfl⟩
            go_wp2_with fail
            go_region_held3 (fun w' => w'.cell? ⟨bk, 2, none⟩ = some (.int .i64 e.size) ∧ w'.cell? ⟨bk, 3, none⟩ = some (.slice x e.chunks.length c)) (first | trivial | go_keep)
              ((first
                | (go_at_call 36; refine (HFo.out _).mono ?_; rintro r w' ⟨rfl, rfl⟩)))
            go_wp2_with fail
            go_ret
            exact ⟨ret_int HE.out.symm, HB1.out.drew⟩
        · have HZ := hide (l1In_no e.size 0 24 w1 (by omega))
          have HE := hide (entFault_size hf hfm (decide_eq_false hz))
          clear hfm hf
          go_wp2_with fail
          refine HI.out.mono ?_
          rintro r w' ⟨rfl, rfl⟩
          go_wp2_with fail
          refine HZ.out.mono ?_
          rintro r w' ⟨rfl, rfl⟩
          go_wp2_with fail
          go_ret
          exact ⟨ret_int HE.out.symm, HB1.out⟩
      · have hkn : (e.kind != 1) = true := by simp; exact hk1
        have HI := hide (l1In_yes e.kind 1 4 w1 hk.1 hk.2)
        by_cases hz : e.size = 0
        · have hzn : (e.size != 0) = false := by simp; exact hz
          by_cases hl : e.chunks.length = 0
          · have HE := hide (show entFault e = 0 from by
              have e0 : e.chunks = [] := List.length_eq_zero_iff.1 hl
              rw [entFault_digs hf (decide_eq_true ⟨hk, Or.inr ⟨hz, hl⟩⟩) (decide_eq_true (by omega)) (decide_eq_true (by rw [hl, hz]; rfl)), e0]; rfl)
            have hl0 : ¬ (0 : Int) < (e.chunks.length : Int) := by omega
            have HZ := hide (l1In_yes e.size 0 24 w1 (by omega) (by omega))
            have HFo := hide (fun u => l4For_any e.size u (by omega) (by omega))
            have hmn : ((e.chunks.length : Int) != (e.size + 7) / 8) = false := by rw [hl, hz]; rfl
            clear hf hl hz hk1
            go_wp2_with fail
            refine HI.out.mono ?_
            rintro r w' ⟨rfl, rfl⟩
            go_wp2_with fail
            refine HZ.out.mono ?_
            rintro r w' ⟨rfl, rfl⟩
            go_wp2_with fail
            go_region_held3 (fun w' => w'.cell? ⟨bk, 2, none⟩ = some (.int .i64 e.size) ∧ w'.cell? ⟨bk, 3, none⟩ = some (.slice x e.chunks.length c)) (first | trivial | go_keep)
              ((first
                | (go_at_call 36; refine (HFo.out _).mono ?_; rintro r w' ⟨rfl, rfl⟩)))
            go_wp2_with fail
            have d3 : w'.drew.cell? ⟨bk, 3, none⟩ = some (.slice x e.chunks.length c) := c3
            have HB2 := hide HB1.out.drew
            clear c0 c1 c2 c3 HR1 HB1 HI HZ hmn
            generalize w'.drew = W at *
            go_rounds 1
            go_ret
            exact ⟨ret_int HE.out.symm, HB2.out⟩
          · have HE := hide (entFault_form hf (decide_eq_false (fun h => h.2.elim hk1 (fun h => hl h.2))))
            have hl0 : (0 : Int) < (e.chunks.length : Int) := by omega
            clear hf hl hz hk1
            go_wp2_with fail
            refine HI.out.mono ?_
            rintro r w' ⟨rfl, rfl⟩
            go_wp2_with fail
            go_ret
            exact ⟨ret_int HE.out.symm, HB1.out⟩
        · have HE := hide (entFault_form hf (decide_eq_false (fun h => h.2.elim hk1 (fun h => hz h.1))))
          have hzn : (e.size != 0) = true := by simp; exact hz
          clear hf hz hk1
          go_wp2_with fail
          refine HI.out.mono ?_
          rintro r w' ⟨rfl, rfl⟩
          go_wp2_with fail
          go_ret
          exact ⟨ret_int HE.out.symm, HB1.out⟩
    · have HE := hide (entFault_form hf (decide_eq_false (fun h => hk h.1)))
      have HI := hide (l1In_no e.kind 1 4 w1 (by omega))
      clear hf
      go_wp2_with fail
      refine HI.out.mono ?_
      rintro r w' ⟨rfl, rfl⟩
      go_wp2_with fail
      go_ret
      exact ⟨ret_int HE.out.symm, HB1.out⟩
  · rw [entFault_path hf]
    go_enter Try.func20, Try.ntmps20
    go_wp2_with fail
    refine (l3Fault_any _ _ (by rw [str_size]; omega)).mono ?_
    rintro r w1 ⟨rfl, hb1⟩
    rw [str_data]
    have HB1 := hide (below_next HN.out hb1)
    clear hb1 HN HB HR
    go_wp2_with fail
    go_ret
    exact ⟨rfl, HB1.out⟩
end Go.Proofs.Ytcnoabkpilmanaa
