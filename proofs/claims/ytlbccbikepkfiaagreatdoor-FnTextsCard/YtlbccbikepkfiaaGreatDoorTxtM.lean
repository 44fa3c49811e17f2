/-
  The model's l5Digits, l5Hexes, l5Text and EntryText.
-/
import Derived.Test.YtlbccbikepkfiaaGreatDoorJ1
import Derived.Test.YtlbccbikepkfiaaGreatDoorManM
import Derived.Test.YtlbccbikepkfiaaGreatDoorJ2
import Derived.Deep.RegionHeld3
namespace Go.Proofs.YtlbccbikepkfiaaGreatDoor
open Go.RowKit
set_option linter.unusedVariables false
set_option maxRecDepth 100000

theorem digB_one {n : Int} (h : n < 10) : digB n = [UInt8.ofNat (48 + n).toNat] := by simp [digB, h]
theorem digB_two {n : Int} (h : ¬ n < 10) (h1 : n ≤ 99) : digB n = digB (n / 10) ++ digB (n % 10) := by
  rw [digB, if_neg h, digB, if_pos (by omega), digB, if_pos (by omega)]
  rfl
set_option maxHeartbeats 800000 in
theorem l5Digits_one (n : Int) (w : World) (h0 : 0 ≤ n) (h1 : n < 10) : Calls Tryz.prog 69 #[.int .i64 n] w fun r w' => r = .returned (.string (str (digB n))) ∧ Below w.heap.size w w' := by
  have hconv := run_convert_bytes_arg (P := Tryz.prog) (w.alloc (.cells #[.int .u8 (48 + n)] 5)) 22 5 Tryz.underlying22 Tryz.underlying5 w.heap.size 0 1 1 [48 + n] rfl (fun i hi => by match i, hi with | 0, _ => simp) 9 Tryz.underlying9
  have hmod : (48 + n) % 256 = 48 + n := by omega
  have HS := hide (show str (digB n) = strOfNums [48 + n] by rw [digB_one h1]; rfl)
  go_enter Tryz.func69, Tryz.ntmps69
  go_wp2
  go_ret
  exact ⟨ret_str HS.out.symm, below_alloc _ _⟩
theorem alloc_lt (w : World) (o : Obj) : w.heap.size < (w.alloc o).drew.heap.size := by simp
theorem alloc_cell0 (w : World) (v : Value) (t : TypeId) : (w.alloc (.cells #[v] t)).drew.cell? ⟨w.heap.size, 0, none⟩ = some v := by simp
theorem conv_one (w : World) (b : Nat) (v : Int) (h : w.cell? ⟨b, 0, none⟩ = some (.int .u8 v)) : Sem.run Tryz.prog (convert 22 9 (.slice (some ⟨b, 0, none⟩) 1 1)) w = .ok (.string (strOfNums [v])) w :=
  run_convert_bytes_arg (P := Tryz.prog) w 22 5 Tryz.underlying22 Tryz.underlying5 b 0 1 1 [v] rfl (fun i hi => by match i, hi with | 0, _ => simpa using h) 9 Tryz.underlying9
set_option maxHeartbeats 1600000 in
theorem l5Digits_any (n : Int) (w : World) (h0 : 0 ≤ n) (h1 : n ≤ 99) : Calls Tryz.prog 69 #[.int .i64 n] w fun r w' => r = .returned (.string (str (digB n))) ∧ Below w.heap.size w w' := by
  by_cases h10 : n < 10
  · exact l5Digits_one n w h0 h10
  · have HS := hide (show str (digB (n / 10)) ++ strOfNums [48 + n % 10] = str (digB n) by
      rw [digB_two h10 h1, ← str_append, digB_one (n := n % 10) (by omega)]; rfl)
    have hq : n.tdiv 10 = n / 10 := by rw [Int.tdiv_eq_ediv_of_nonneg h0]
    have hr : n.tmod 10 = n % 10 := by rw [Int.tmod_eq_emod_of_nonneg h0]
    have hmod : (48 + n % 10) % 256 = 48 + n % 10 := by omega
    have hwq : IntKind.i64.wrap (n / 10) = n / 10 := by simp [IntKind.wrap, IntKind.signed, IntKind.bits]; omega
    have hwr : IntKind.i64.wrap (n % 10) = n % 10 := by simp [IntKind.wrap, IntKind.signed, IntKind.bits]; omega
    have hw1 : IntKind.i64.wrap (48 + n % 10) = 48 + n % 10 := by simp [IntKind.wrap, IntKind.signed, IntKind.bits]; omega
    have hw2 : IntKind.u8.wrap (48 + n % 10) = 48 + n % 10 := by simp [IntKind.wrap, IntKind.signed, IntKind.bits]; omega
    have hc1 := conv_one (w.alloc (.cells #[.int .u8 (48 + n % 10)] 5)) w.heap.size (48 + n % 10) (by simp)
    have hc2 := conv_one (w.alloc (.cells #[.int .u8 (48 + n % 10)] 5)).drew w.heap.size (48 + n % 10) (by simp)
    have hz1 : ¬ 9223372036854775807 < (str (digB (n / 10))).size + 1 := by rw [str_size, digB_one (by omega)]; show ¬ 9223372036854775807 < 1 + 1; decide
    have hz2 : ¬ 9223372036854775807 < (str (digB (n / 10))).size + (strOfNums [48 + n % 10]).size := by rw [str_size, digB_one (by omega), strOfNums_size]; show ¬ 9223372036854775807 < 1 + 1; decide
    have HC := hide (fun u => l5Digits_one (n / 10) u (by omega) (by omega))
    go_enter Tryz.func69, Tryz.ntmps69
    go_wp2_with fail
    go_region_law
      ((first
        | (go_simp; go_wp2_with (go_at_call 69; refine (HC.out _).mono ?_; rintro r w1 ⟨rfl, hb1⟩; have hc3 := conv_one (w1.alloc (.cells #[.int .u8 (48 + n % 10)] 5)) w1.heap.size (48 + n % 10) (by simp); (first | (have hc4 := conv_one w1 w.heap.size (48 + n % 10) ((hb1.cell (p := ⟨w.heap.size, 0, none⟩) (alloc_lt w (.cells #[.int .u8 (48 + n % 10)] 5))).trans (alloc_cell0 w (.int .u8 (48 + n % 10)) 5))) | skip); have B1 : Hid (Below w.heap.size w w1) := hide (by first | exact below_next (Below.refl _ _).drew hb1 | exact below_next (below_alloc _ _).drew hb1); clear hb1))))
    all_goals
      go_wp2_with fail
      go_ret
      exact ⟨ret_str HS.out, by first | exact B1.out | exact below_next B1.out (below_alloc _ _)⟩

set_option maxHeartbeats 1600000 in
theorem l5Hexes_any (cs : List Int) (x : Option Addr) (c : Nat) (w : World) (h : Reads .i64 w x cs) (hd : cs.length ≤ 3) (hall : ∀ z ∈ cs, 0 ≤ z ∧ z ≤ 4294967295) :
    Calls Tryz.prog 70 #[.slice x cs.length c] w fun r w' => r = .returned (.string (str (hexesB cs))) ∧ Below w.heap.size w w' := by
  have HR := hide h
  have HALL := hide hall
  clear h hall
  by_cases h0 : cs = []
  · subst h0
    go_enter Tryz.func70, Tryz.ntmps70
    go_wp2_with fail
    go_ret
    exact ⟨rfl, Below.refl _ _⟩
  · have hpos : 0 < cs.length := List.length_pos_iff.2 h0
    have hne : ((cs.length : Int) == 0) = false := by simp; omega
    have hp0 : (0 : Int) < (cs.length : Int) := by omega
    have HE := hide (show hexesB cs = joinC 44 (cs.map hexB) by simp [hexesB, h0])
    obtain ⟨b, off, rfl, hb0, hcc⟩ := HR.out h0
    have hc0 := hcc 0 hpos
    rw [Nat.add_zero] at hc0
    have hz0 : cs[0]? = some (cs.getD 0 0) := by rw [List.getD_eq_getElem?_getD, List.getElem?_eq_getElem hpos]; rfl
    generalize cs.getD 0 0 = y0 at hc0 hz0
    have HZ0 := hide hz0
    have HY0 := hide (HALL.out y0 (List.mem_of_getElem? hz0))
    clear hcc hz0 h0
    go_enter Tryz.func70, Tryz.ntmps70
    go_wp2_with fail
    refine (specl1Hex_any y0 _ HY0.out.1 HY0.out.2).mono ?_
    rintro r w1 ⟨rfl, hb1⟩
    have B1 := hide hb1
    clear hb1 hc0
    have HS0 := hide (show hexText y0 = str (joinC 44 ((cs.take 1).map hexB)) by
      have : cs.take 1 = cs.take 0 ++ [y0] := take_snoc_at HZ0.out
      rw [this]
      simp [joinC, str_hexB])
    rw [HS0.out]
    go_wp2_with fail
    go_loopw [3, 4] (fun o i wr => ∃ k : Nat, 0 < k ∧ k ≤ cs.length ∧ i = .int .i64 k ∧ o = .string (str (joinC 44 ((cs.take k).map hexB))) ∧ Hid (Below w.heap.size w wr)) (fun _ i _ => cs.length - (intOf i).toNat)
    case atStart => exact ⟨1, by omega, by omega, rfl, by rw [List.map_take], B1⟩
    case round =>
      obtain ⟨k, hk0, hk, rfl, rfl, HB⟩ := hrel
      have hb2 := joinC_bound (m := 44) (K := 8) ((cs.take k).map hexB) (fun p hp => by obtain ⟨z, -, rfl⟩ := List.mem_map.1 hp; exact Nat.le_of_eq (hexB_length z))
      have hb3 : ((cs.take k).map hexB).length = k := by simp; omega
      rw [hb3] at hb2
      by_cases hlt : k < cs.length
      · obtain ⟨b', off', hae, hb4, hcc⟩ := (HR.out.below HB.out) (by intro e; simp [e] at hlt)
        cases hae
        have hc1 := hcc k hlt
        have hzk : cs[k]? = some (cs.getD k 0) := by rw [List.getD_eq_getElem?_getD, List.getElem?_eq_getElem hlt]; rfl
        generalize cs.getD k 0 = y at hc1 hzk
        have HZ := hide hzk
        have HY := hide (HALL.out y (List.mem_of_getElem? hzk))
        clear hcc hzk
        have HSN := hide (show str (joinC 44 ((cs.take k).map hexB)) ++ (⟨#[44]⟩ : ByteArray) ++ hexText y = str (joinC 44 ((cs.take (k + 1)).map hexB)) by
          rw [take_snoc_at HZ.out, List.map_append, List.map_cons, List.map_nil, joinC_snoc 44 _ (by intro e; rw [e] at hb3; simp at hb3; omega), ← str_hexB y]
          have e : (⟨#[44]⟩ : ByteArray) = str [44] := rfl
          rw [e, str_append, str_append]
          simp)
        have hh8 := hexText_size y
        have hss := str_size (joinC 44 ((cs.take k).map hexB))
        generalize str (joinC 44 ((cs.take k).map hexB)) = S at *
        have hz1 : ¬ 9223372036854775807 < S.size + 1 := by omega
        have hz2 : ¬ 9223372036854775807 < S.size + 1 + (hexText y).size := by omega
        clear hb2 hb3 hss
        go_wp2_with fail
        refine (specl1Hex_any y _ HY.out.1 HY.out.2).mono ?_
        rintro r w2 ⟨rfl, hbw⟩
        have HB1 := hide (below_next HB.out hbw)
        clear hbw
        go_wp2_with fail
        rw [HSN.out]
        go_roundw
        case rel => exact ⟨k + 1, by omega, by omega, by go_num, rfl, HB1⟩
        case measure => simp [intOf]; omega
      · have hk' : k = cs.length := by omega
        subst hk'
        rw [List.take_length]
        clear hb2 hb3
        go_wp2_with fail
        go_ret
        exact ⟨ret_str (by rw [HE.out]), HB.out⟩

set_option maxHeartbeats 3200000 in
theorem l5Text_any (e : En) (x : Option Addr) (c : Nat) (w : World) (h : Reads .i64 w x e.chunks) (hf : FitE e) :
    Calls Tryz.prog 40 #[.agg #[.string (str e.path), .int .i64 e.kind, .int .i64 e.size, .slice x e.chunks.length c]] w fun r w' => r = .returned (.string (str (textE e))) ∧ Below w.heap.size w w' := by
  have B0 := hide (below_alloc w (.cells #[.string (str e.path), .int .i64 e.kind, .int .i64 e.size, .slice x e.chunks.length c] 39))
  have F0 := hide (Four.new w (.string (str e.path)) (.int .i64 e.kind) (.int .i64 e.size) (.slice x e.chunks.length c) 39)
  have R0 := hide (h.below B0.out)
  have HF := hide hf
  have hpl := hf.plen
  have hps := str_size e.path
  clear h hf
  by_cases hk : e.kind = 1
  · have hkb : (e.kind == 1) = true := by simp [hk]
    have HT := hide (show (⟨#[102, 32]⟩ : ByteArray) ++ str e.path ++ (⟨#[32]⟩ : ByteArray) ++ str (digB e.size) ++ (⟨#[32]⟩ : ByteArray) ++ str (hexesB e.chunks) = str (textE e) by
      rw [textE_file hk, ← str_append, ← str_append, ← str_append, ← str_append, ← str_append]; rfl)
    have hdl := digB_len e.size
    have hds := str_size (digB e.size)
    have hhl := hexesB_len HF.out.three
    have hhs := str_size (hexesB e.chunks)
    clear hk
    go_enter Tryz.func40, Tryz.ntmps40
    obtain ⟨f0, f1, f2, f3⟩ := F0.out
    go_wp2_with fail
    generalize w.alloc (.cells #[.string (str e.path), .int .i64 e.kind, .int .i64 e.size, .slice x e.chunks.length c] 39) = W at *
    obtain ⟨b0, hb0⟩ : ∃ b0, b0 = w.heap.size := ⟨_, rfl⟩
    rw [← hb0] at F0 f0 f1 f2 f3 ⊢
    have HB0 := hide hb0
    clear hb0 f0 f1 f2 f3
    have f0 : ∀ u : InW (fun x => Below W.heap.size W x), u.val.cell? ⟨b0, 0, none⟩ = some (.string (str e.path)) := fun u => (F0.out.below u.ok).1
    have f2 : ∀ u : InW (fun x => Below W.heap.size W x), u.val.cell? ⟨b0, 2, none⟩ = some (.int .i64 e.size) := fun u => (F0.out.below u.ok).2.2.1
    have f3 : ∀ u : InW (fun x => Below W.heap.size W x), u.val.cell? ⟨b0, 3, none⟩ = some (.slice x e.chunks.length c) := fun u => (F0.out.below u.ok).2.2.2
    have C1 : Hid (∀ u : InW (fun x => Below W.heap.size W x), Calls Tryz.prog 69 #[.int .i64 e.size] u.val fun r w' => r = .returned (.string (str (digB e.size))) ∧ ∃ y : InW (fun x => Below W.heap.size W x), w' = y.val) := hide (fun u => (l5Digits_any e.size u.val HF.out.size.1 (by have := HF.out.size; omega)).mono (fun r w' ⟨hr, hb⟩ => ⟨hr, ⟨w', below_next u.ok hb⟩, rfl⟩))
    have C2 : Hid (∀ u : InW (fun x => Below W.heap.size W x), Calls Tryz.prog 70 #[.slice x e.chunks.length c] u.val fun r w' => r = .returned (.string (str (hexesB e.chunks))) ∧ ∃ y : InW (fun x => Below W.heap.size W x), w' = y.val) := hide (fun u => (l5Hexes_any e.chunks x c u.val (R0.out.below u.ok) HF.out.three HF.out.digs).mono (fun r w' ⟨hr, hb⟩ => ⟨hr, ⟨w', below_next u.ok hb⟩, rfl⟩))
    have hne : Nonempty (InW (fun x => Below W.heap.size W x)) := ⟨⟨W, Below.refl _ _⟩⟩
    generalize str e.path = SP at *
    generalize str (digB e.size) = SD at *
    generalize str (hexesB e.chunks) = SH at *
    have z1 : ¬ 9223372036854775807 < 2 + SP.size := by omega
    have z2 : ¬ 9223372036854775807 < 2 + SP.size + 1 := by omega
    have z3 : ¬ 9223372036854775807 < 2 + SP.size + 1 + SD.size := by omega
    have z4 : ¬ 9223372036854775807 < 2 + SP.size + 1 + SD.size + 1 := by omega
    have z5 : ¬ 9223372036854775807 < 2 + SP.size + 1 + SD.size + 1 + SH.size := by omega
    refine wp_region_inv (Inv := fun x => Below W.heap.size W x) (by kernel_rfl) (by kernel_rfl) (Below.refl _ _).drew ?_
    repeat (first | go_big_quiet_step (first | (go_at_call 69; exact C1.out _) | (go_at_call 70; exact C2.out _)) | quiet_step (fail))
    refine wpQuiet_nil ?_
    intro _ hw'
    obtain ⟨u, hw''⟩ := hw'
    subst hw''
    have B3 := hide (below_next B0.out u.ok)
    rw [HT.out]
    go_wp2_with fail
    go_ret
    exact ⟨rfl, B3.out⟩
  · have hkb : (e.kind == 1) = false := by simp [hk]
    have HT := hide (textE_dir hk)
    have hk4 := HF.out.kind
    have z1 : ¬ 9223372036854775807 < 2 + (str e.path).size := by omega
    obtain ⟨b0, hb0⟩ : ∃ b0, b0 = w.heap.size := ⟨_, rfl⟩
    have hks : e.kind = 2 ∨ e.kind = 3 ∨ e.kind = 4 := by omega
    rcases hks with hkk | hkk | hkk
    all_goals
      have HT2 := hide (show str (kindB e.kind ++ [32]) ++ str e.path = str (textE e) by rw [HT.out, str_append])
      rw [hkk] at HT2 F0 B0 ⊢
      go_enter Tryz.func40, Tryz.ntmps40
      obtain ⟨f0, f1, f2, f3⟩ := F0.out
      go_wp2_with fail
      go_region
      all_goals
        go_wp2_with fail
        go_ret
        exact ⟨ret_str HT2.out, by first | exact (below_next B0.out (below_alloc _ _)).drew | exact below_next B0.out.drew (below_alloc _ _)⟩

end Go.Proofs.YtlbccbikepkfiaaGreatDoor
