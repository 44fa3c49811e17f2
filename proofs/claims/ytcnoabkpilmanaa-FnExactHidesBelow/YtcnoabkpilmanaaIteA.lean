/-
  The program's items: an entry with its file as a part; the fault of an entry.
-/
import Derived.Test.YtcnoabkpilmanaaEntF
import Derived.Test.YtcnoabkpilmanaaPathP
namespace Go.Proofs.Ytcnoabkpilmanaa
open Go.RowKit
set_option linter.unusedVariables false

theorem implDig_any (n : Int) (w : World) : Calls Try.prog 58 #[.int .i64 n] w fun e w' => e = .returned (.bool (isDig n)) ∧ w' = w := by
  by_cases h0 : 0 ≤ n
  · by_cases h1 : n ≤ 4294967295
    · have e : isDig n = true := decide_eq_true ⟨h0, h1⟩
      rw [e]
      go_enter Try.func58, Try.ntmps58
      go_wp2
      go_ret
      exact ⟨rfl, rfl⟩
    · have e : isDig n = false := decide_eq_false (fun h => h1 h.2)
      rw [e]
      go_enter Try.func58, Try.ntmps58
      go_wp2
      go_ret
      exact ⟨rfl, rfl⟩
  · have e : isDig n = false := decide_eq_false (fun h => h0 h.1)
    rw [e]
    go_enter Try.func58, Try.ntmps58
    go_wp2
    go_ret
    exact ⟨rfl, rfl⟩

set_option maxHeartbeats 400000 in
theorem itemOf_any (p : ByteArray) (k z : Int) (a : Option Addr) (n c : Nat) (w : World) :
    Calls Try.prog 30 #[.agg #[.string p, .int .i64 k, .int .i64 z, .slice a n c]] w fun r w' => r = .returned (.agg #[.int .i64 z, .slice a n c, .string p, .int .i64 k]) ∧ Below w.heap.size w w' := by
  go_enter Try.func30, Try.ntmps30
  go_wp2
  refine bodyPost_ret (v := .agg #[.int .i64 z, .slice a n c, .string p, .int .i64 k]) (by simp [results, Try.results30, go_sem]) rfl ⟨rfl, ?_⟩
  exact below_next (below_alloc _ _) (below_alloc _ _)

set_option maxHeartbeats 400000 in
theorem isKind_any (p : ByteArray) (k z : Int) (a : Option Addr) (n c : Nat) (w : World) :
    Calls Try.prog 51 #[.agg #[.int .i64 z, .slice a n c, .string p, .int .i64 k]] w fun r w' => r = .returned (.bool (decide (1 ≤ k ∧ k ≤ 4))) ∧ Below w.heap.size w w' := by
  by_cases h0 : 1 ≤ k
  · by_cases h1 : k ≤ 4
    · have e : decide (1 ≤ k ∧ k ≤ 4) = true := decide_eq_true ⟨h0, h1⟩
      rw [e]
      go_enter Try.func51, Try.ntmps51
      go_wp2
      go_ret
      exact ⟨rfl, below_alloc _ _⟩
    · have e : decide (1 ≤ k ∧ k ≤ 4) = false := decide_eq_false (fun h => h1 h.2)
      rw [e]
      go_enter Try.func51, Try.ntmps51
      go_wp2
      go_ret
      exact ⟨rfl, below_alloc _ _⟩
  · have e : decide (1 ≤ k ∧ k ≤ 4) = false := decide_eq_false (fun h => h0 h.1)
    rw [e]
    go_enter Try.func51, Try.ntmps51
    go_wp2
    go_ret
    exact ⟨rfl, below_alloc _ _⟩

set_option maxHeartbeats 400000 in
theorem isDir_any (p : ByteArray) (k z : Int) (a : Option Addr) (n c : Nat) (w : World) :
    Calls Try.prog 55 #[.agg #[.int .i64 z, .slice a n c, .string p, .int .i64 k]] w fun r w' => r = .returned (.bool (dirK k)) ∧ Below w.heap.size w w' := by
  by_cases h0 : k = 2
  · have e : dirK k = true := decide_eq_true (.inl h0)
    have hb : (k == 2) = true := by simp [h0]
    rw [e]
    clear e h0
    go_enter Try.func55, Try.ntmps55
    go_wp2
    go_ret
    exact ⟨rfl, below_alloc _ _⟩
  · have hb : (k == 2) = false := by simp [h0]
    by_cases h1 : k = 4
    · have e : dirK k = true := decide_eq_true (.inr h1)
      have hb1 : (k == 4) = true := by simp [h1]
      rw [e]
      clear e h0 h1
      go_enter Try.func55, Try.ntmps55
      go_wp2
      go_ret
      exact ⟨rfl, below_alloc _ _⟩
    · have e : dirK k = false := decide_eq_false (fun h => h.elim h0 h1)
      have hb1 : (k == 4) = false := by simp [h1]
      rw [e]
      clear e h0 h1
      go_enter Try.func55, Try.ntmps55
      go_wp2
      go_ret
      exact ⟨rfl, below_alloc _ _⟩

set_option maxHeartbeats 400000 in
theorem hasBytes_any (z : Int) (a : Option Addr) (n c : Nat) (w : World) :
    Calls Try.prog 52 #[.agg #[.int .i64 z, .slice a n c]] w fun r w' => r = .returned (.bool (decide (z ≠ 0 ∨ n ≠ 0))) ∧ Below w.heap.size w w' := by
  by_cases h0 : z = 0
  · have hb : (z != 0) = false := by simp [h0]
    by_cases h1 : n = 0
    · have e : decide (z ≠ 0 ∨ n ≠ 0) = false := decide_eq_false (fun h => h.elim (fun h => h h0) (fun h => h h1))
      have hb1 : ((n : Int) != 0) = false := by simp [h1]
      rw [e]
      clear e h0 h1
      go_enter Try.func52, Try.ntmps52
      go_wp2
      go_ret
      exact ⟨rfl, below_alloc _ _⟩
    · have e : decide (z ≠ 0 ∨ n ≠ 0) = true := decide_eq_true (.inr h1)
      have hb1 : ((n : Int) != 0) = true := by simp; omega
      rw [e]
      clear e h0 h1
      go_enter Try.func52, Try.ntmps52
      go_wp2
      go_ret
      exact ⟨rfl, below_alloc _ _⟩
  · have e : decide (z ≠ 0 ∨ n ≠ 0) = true := decide_eq_true (.inl h0)
    have hb : (z != 0) = true := by simp [h0]
    rw [e]
    clear e h0
    go_enter Try.func52, Try.ntmps52
    go_wp2
    go_ret
    exact ⟨rfl, below_alloc _ _⟩

/-- The fault of an entry's Size and Chunks. -/
def bytesF (z : Int) (zs : List Int) : Int := if 0 ≤ z ∧ z ≤ 24 then (if (zs.length : Int) = (z + 7) / 8 then (if zs.all isDig then 0 else 3) else 1) else 3
theorem entFault_bytes {e : En} (h : faultP e.path = 0) (h1 : formE e = true) : entFault e = bytesF e.size e.chunks := by
  simp [entFault, h, h1, bytesF, sizeE, manyE]

set_option maxHeartbeats 800000 in
theorem bytesFault_any (z : Int) (x : Option Addr) (c : Nat) (zs : List Int) (w : World) (h : Reads .i64 w x zs) (hc : zs.length ≤ 1048576) :
    Calls Try.prog 53 #[.agg #[.int .i64 z, .slice x zs.length c]] w fun r w' => r = .returned (.int .i64 (bytesF z zs)) ∧ Below w.heap.size w w' := by
  have HR := hide h
  clear h
  by_cases h0 : 0 ≤ z
  · have h0' : ¬ z < 0 := by omega
    by_cases h1 : z ≤ 24
    · have h1' : ¬ 24 < z := by omega
      have ed : (z + 7) / 8 = (z + 8 - 1) / 8 := by congr 1; omega
      by_cases hm : (zs.length : Int) = (z + 7) / 8
      · have HE := hide (show bytesF z zs = if zs.all isDig then 0 else 3 from by simp [bytesF, h0, h1, hm])
        have hmn : ((zs.length : Int) != (z + 8 - 1) / 8) = false := by rw [← ed]; simp; exact hm
        clear hm ed
        have HR1 := hide (HR.out.below (below_alloc w (.cells #[.int .i64 z, .slice x zs.length c] 54)))
        go_enter Try.func53, Try.ntmps53
        go_wp2_with fail
        have HB := hide (below_alloc w (.cells #[.int .i64 z, .slice x zs.length c] 54))
        generalize w.alloc (.cells #[.int .i64 z, .slice x zs.length c] 54) = W at *
        go_loop [25] (fun i => ∃ k : Nat, k ≤ zs.length ∧ i = .int .i64 k ∧ Hid ((zs.take k).all isDig = true)) (fun i => zs.length - (intOf i).toNat)
        case atStart => exact ⟨0, Nat.zero_le _, rfl, hide (by simp)⟩
        case round =>
          obtain ⟨k, hk, rfl, HA⟩ := hrel
          by_cases hlt : k < zs.length
          · obtain ⟨b, off, rfl, hb1, hcc⟩ := HR1.out (by intro e; simp [e] at hlt)
            have hc1 := hcc k hlt
            have hzk : zs[k]? = some (zs.getD k 0) := by rw [List.getD_eq_getElem?_getD, List.getElem?_eq_getElem hlt]; rfl
            generalize zs.getD k 0 = y at hc1 hzk
            have HZ := hide hzk
            clear hcc hzk
            cases hd : isDig y
            · have HX := hide (show zs.all isDig = false from by rw [List.all_eq_false]; exact ⟨y, List.mem_of_getElem? HZ.out, by simp [hd]⟩)
              have HD := hide hd
              clear hd
              go_wp2_with fail
              refine (implDig_any _ _).mono ?_
              rintro r w'' ⟨rfl, rfl⟩
              rw [HD.out]
              go_wp2_with fail
              go_ret
              exact ⟨ret_int (by rw [HE.out, HX.out]; rfl), HB.out⟩
            · have HX := hide (show (zs.take (k + 1)).all isDig = true from by rw [take_snoc_at HZ.out]; simp [HA.out, hd])
              have HD := hide hd
              clear hd
              go_wp2_with fail
              refine (implDig_any _ _).mono ?_
              rintro r w'' ⟨rfl, rfl⟩
              rw [HD.out]
              go_wp2_with fail
              go_round
              case rel => exact ⟨k + 1, by omega, by go_num, HX⟩
              case measure => simp [intOf]; omega
          · have HX := hide (show zs.all isDig = true from by have := HA.out; rwa [List.take_of_length_le (by omega)] at this)
            go_wp2_with fail
            go_ret
            exact ⟨ret_int (by rw [HE.out, HX.out]; rfl), HB.out⟩
      · have HE := hide (show bytesF z zs = 1 from by simp [bytesF, h0, h1, hm])
        have hmn : ((zs.length : Int) != (z + 8 - 1) / 8) = true := by rw [← ed]; simp; exact hm
        clear hm ed
        go_enter Try.func53, Try.ntmps53
        go_wp2_with fail
        go_ret
        exact ⟨ret_int HE.out.symm, below_alloc _ _⟩
    · have h1' : 24 < z := by omega
      have HE := hide (show bytesF z zs = 3 from by simp [bytesF, h1])
      clear h1
      go_enter Try.func53, Try.ntmps53
      go_wp2_with fail
      go_ret
      exact ⟨ret_int HE.out.symm, below_alloc _ _⟩
  · have h0' : z < 0 := by omega
    have HE := hide (show bytesF z zs = 3 from by simp [bytesF, h0])
    clear h0
    go_enter Try.func53, Try.ntmps53
    go_wp2_with fail
    go_ret
    exact ⟨ret_int HE.out.symm, below_alloc _ _⟩

set_option maxRecDepth 100000 in
set_option maxHeartbeats 1600000 in
theorem implEntryFault_any (e : En) (x : Option Addr) (c n : Nat) (w : World) (h : Reads .i64 w x e.chunks) (hn : n = e.chunks.length) (hp : e.path.length ≤ 1048576) (hc : e.chunks.length ≤ 1048576) :
    Calls Try.prog 46 #[.agg #[.string (str e.path), .int .i64 e.kind, .int .i64 e.size, .slice x n c]] w fun r w' => r = .returned (.int .i64 (entFault e)) ∧ Below w.heap.size w w' := by
  subst hn
  have HR := hide h
  clear h
  have HN := hide (below_alloc w (.cells #[.string (str e.path), .int .i64 e.kind, .int .i64 e.size, .slice x e.chunks.length c] 36))
  have HB := hide (Four.new w (.string (str e.path)) (.int .i64 e.kind) (.int .i64 e.size) (.slice x e.chunks.length c) 36)
  by_cases hf : faultP e.path = 0
  · go_enter Try.func46, Try.ntmps46
    go_wp2_with fail
    refine (implPathFault_any _ _ (by rw [str_size]; omega)).mono ?_
    rintro r w1 ⟨rfl, hb1⟩
    rw [str_data, hf]
    have HB1 := hide (below_next HN.out hb1)
    have hB := HB.out.below hb1
    clear HB HN hb1
    obtain ⟨c0, c1, c2, c3⟩ := hB
    generalize w.heap.size = bk at c0 c1 c2 c3 ⊢
    go_wp2_with fail
    refine (itemOf_any _ _ _ _ _ _ _).mono ?_
    rintro r w2 ⟨rfl, hb2⟩
    have HB2 := hide (below_next HB1.out hb2)
    clear HB1 hb2 c0 c1 c2 c3
    go_wp2_with fail
    have F2 := hide (Four.new w2 (.int .i64 e.size) (.slice x e.chunks.length c) (.string (str e.path)) (.int .i64 e.kind) 56)
    have HB3 := hide (below_next HB2.out (below_alloc w2 (.cells #[.int .i64 e.size, .slice x e.chunks.length c, .string (str e.path), .int .i64 e.kind] 56)))
    generalize w2.alloc (.cells #[.int .i64 e.size, .slice x e.chunks.length c, .string (str e.path), .int .i64 e.kind] 56) = W3 at *
    generalize w2.heap.size = b2 at *
    refine (isKind_any _ _ _ _ _ _ _).mono ?_
    rintro r w4 ⟨rfl, hb4⟩
    have F4 := F2.out.below hb4
    have HB4 := hide (below_next HB3.out hb4)
    clear hb4 HB3 HB2 F2
    obtain ⟨f0, f1, f2, f3⟩ := F4
    by_cases hk : 1 ≤ e.kind ∧ e.kind ≤ 4
    · rw [decide_eq_true hk]
      by_cases hk1 : e.kind = 1
      · have HE := hide (entFault_bytes hf (decide_eq_true ⟨hk, Or.inl hk1⟩))
        have hkn : (e.kind != 1) = false := by simp [hk1]
        clear hk hk1 hf
        have HR4 := hide (HR.out.below HB4.out)
        go_wp2_with fail
        refine (bytesFault_any _ _ _ _ _ HR4.out hc).mono ?_
        rintro r w5 ⟨rfl, hb5⟩
        have HB5 := hide (below_next HB4.out hb5)
        clear hb5
        go_wp2_with fail
        go_ret
        exact ⟨ret_int HE.out.symm, HB5.out⟩
      · have hkn : (e.kind != 1) = true := by simp [hk1]
        have HK1 := hide hk1
        have HK := hide hk
        clear hk1 hk
        go_wp2_with fail
        refine (hasBytes_any _ _ _ _ _).mono ?_
        rintro r w5 ⟨rfl, hb5⟩
        have HB5 := hide (below_next HB4.out hb5)
        have g0 := (hb5.cell (p := ⟨b2, 0, none⟩) (World.block_lt_of_cell? _ _ f0)).trans f0
        have g1 := (hb5.cell (p := ⟨b2, 1, none⟩) (World.block_lt_of_cell? _ _ f1)).trans f1
        clear hb5 f0 f1 f2 f3
        by_cases hz : e.size ≠ 0 ∨ e.chunks.length ≠ 0
        · rw [decide_eq_true hz]
          have HE := hide (entFault_form hf (decide_eq_false (fun h => h.2.elim HK1.out (fun h => hz.elim (fun q => q h.1) (fun q => q h.2)))))
          clear hz hf
          go_wp2_with fail
          go_ret
          exact ⟨ret_int HE.out.symm, HB5.out⟩
        · rw [decide_eq_false hz]
          have HE := hide (entFault_bytes hf (decide_eq_true ⟨HK.out, Or.inr (by omega)⟩))
          clear hz hf
          have HR5 := hide (HR.out.below HB5.out)
          go_wp2_with fail
          refine (bytesFault_any _ _ _ _ _ HR5.out hc).mono ?_
          rintro r w6 ⟨rfl, hb6⟩
          have HB6 := hide (below_next HB5.out hb6)
          clear hb6
          go_wp2_with fail
          go_ret
          exact ⟨ret_int HE.out.symm, HB6.out⟩
    · rw [decide_eq_false hk]
      have HE := hide (entFault_form hf (decide_eq_false (fun h => hk h.1)))
      clear hk hf
      go_wp2_with fail
      go_ret
      exact ⟨ret_int HE.out.symm, HB4.out⟩
  · rw [entFault_path hf]
    go_enter Try.func46, Try.ntmps46
    go_wp2_with fail
    refine (implPathFault_any _ _ (by rw [str_size]; omega)).mono ?_
    rintro r w1 ⟨rfl, hb1⟩
    rw [str_data]
    have HB1 := hide (below_next HN.out hb1)
    clear hb1 HN HB HR
    go_wp2_with fail
    go_ret
    exact ⟨rfl, HB1.out⟩

end Go.Proofs.Ytcnoabkpilmanaa
