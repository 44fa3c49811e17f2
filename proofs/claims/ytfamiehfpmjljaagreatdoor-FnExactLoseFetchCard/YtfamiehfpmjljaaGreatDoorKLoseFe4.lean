/-
  Texts put together: FetS FetW ChunksIn FetX.
-/
import Derived.Test.YtfamiehfpmjljaaGreatDoorKLoseFe3
import Derived.Deep.CutRange
import Derived.Test.YtfamiehfpmjljaaGreatDoorKLoseFe1
import Derived.Test.YtfamiehfpmjljaaGreatDoorKLoseFe2
import Derived.Deep.SlicePairs
import Derived.ProofKit
import Derived.ChangeOld
namespace Go.Proofs.YtfamiehfpmjljaaGreatDoor
open Go.RowKit Go.Maps
set_option linter.unusedVariables false

theorem inS_any (n a b : Int) (w : World) : Calls Tryz.prog 108 #[.int .i64 n, .int .i64 a, .int .i64 b] w fun e w' => e = .returned (.bool (decide (a ≤ n ∧ n ≤ b))) ∧ w' = w := by
  by_cases h0 : a ≤ n
  · by_cases h1 : n ≤ b
    · rw [decide_eq_true ⟨h0, h1⟩]
      go_enter Tryz.func108, Tryz.ntmps108
      go_wp2
      go_ret
      exact ⟨ret_bool (by simp <;> omega), rfl⟩
    · rw [decide_eq_false (fun h => h1 h.2)]
      go_enter Tryz.func108, Tryz.ntmps108
      go_wp2
      go_ret
      exact ⟨ret_bool (by simp <;> omega), rfl⟩
  · rw [decide_eq_false (fun h => h0 h.1)]
    go_enter Tryz.func108, Tryz.ntmps108
    go_wp2
    go_ret
    exact ⟨ret_bool (by simp <;> omega), rfl⟩
theorem dgS_any (n : Int) (w : World) : Calls Tryz.prog 73 #[.int .i64 n] w fun e w' => e = .returned (.bool (decide (okD n))) ∧ w' = w := by
  have h := inS_any n 0 4294967295 w
  go_enter Tryz.func73, Tryz.ntmps73
  go_wp2_with fail
  refine h.mono ?_
  rintro e w ⟨rfl, rfl⟩
  go_wp2
  go_ret
  exact ⟨ret_bool (by by_cases h0 : 0 ≤ n <;> by_cases h1 : n ≤ 4294967295 <;> simp [okD, h0, h1]), rfl⟩
set_option maxRecDepth 100000 in
set_option maxHeartbeats 800000 in
theorem l10At_yes (fb : Nat) (a : Option Addr) (c i : Nat) (W : List Wn) (d : Int) (w : World) (h0 : w.cell? ⟨fb, 0, none⟩ = some (.slice a W.length c)) (h : RdW w a W) (hl : W.length ≤ 1048576) (hi : i < W.length) (hd : (W.getD i (0, 0)).1 = d) (hf : ∀ j, j < i → (W.getD j (0, 0)).1 ≠ d) :
    Calls Tryz.prog 48 #[.pointer (some ⟨fb, 0, none⟩), .int .i64 d] w fun e w' => e = .returned (.int .i64 i) ∧ w' = w := by
  obtain ⟨b1, o1, rfl, hb1, hc1⟩ := h (by intro e; simp [e] at hi)
  have HC := hide hc1
  have HF := hide hf
  have HD := hide hd
  clear h hc1 hf hd
  go_enter Tryz.func48, Tryz.ntmps48
  go_wp2
  go_loop [5] (fun q => ∃ k : Nat, k ≤ i ∧ q = .int .i64 k) (fun q => W.length - (intOf q).toNat)
  case atStart => exact ⟨0, Nat.zero_le _, rfl⟩
  case round =>
    obtain ⟨k, hk, rfl⟩ := hrel
    have hlt : k < W.length := by omega
    obtain ⟨c1, -⟩ := HC.out k hlt
    by_cases e : k = i
    · subst e
      rw [HD.out] at c1
      go_wp2
      go_ret
      exact ⟨rfl, rfl⟩
    · have hne : ((W.getD k (0, 0)).1 == d) = false := by simpa using HF.out k (by omega)
      generalize (W.getD k (0, 0)).1 = dd at c1 hne
      go_wp2
      go_round
      case rel => exact ⟨k + 1, by omega, by go_num⟩
      case measure => simp [intOf]; omega
set_option maxRecDepth 100000 in
set_option maxHeartbeats 800000 in
theorem l10At_no (fb : Nat) (a : Option Addr) (c : Nat) (W : List Wn) (d : Int) (w : World) (h0 : w.cell? ⟨fb, 0, none⟩ = some (.slice a W.length c)) (h : RdW w a W) (hl : W.length ≤ 1048576) (hf : ∀ j, j < W.length → (W.getD j (0, 0)).1 ≠ d) :
    Calls Tryz.prog 48 #[.pointer (some ⟨fb, 0, none⟩), .int .i64 d] w fun e w' => e = .returned (.int .i64 (-1)) ∧ w' = w := by
  have HC := hide h
  have HF := hide hf
  clear h hf
  go_enter Tryz.func48, Tryz.ntmps48
  go_wp2
  go_loop [5] (fun q => ∃ k : Nat, k ≤ W.length ∧ q = .int .i64 k) (fun q => W.length - (intOf q).toNat)
  case atStart => exact ⟨0, Nat.zero_le _, rfl⟩
  case round =>
    obtain ⟨k, hk, rfl⟩ := hrel
    by_cases hlt : k < W.length
    · obtain ⟨b1, o1, rfl, hb1, hc1⟩ := HC.out (by intro e; simp [e] at hlt)
      obtain ⟨c1, -⟩ := hc1 k hlt
      clear hc1
      have hne : ((W.getD k (0, 0)).1 == d) = false := by simpa using HF.out k hlt
      generalize (W.getD k (0, 0)).1 = dd at c1 hne
      go_wp2
      go_round
      case rel => exact ⟨k + 1, by omega, by go_num⟩
      case measure => simp [intOf]; omega
    · go_wp2
      go_ret
      exact ⟨rfl, rfl⟩
theorem first_take {W : List Wn} {k : Nat} {d : Int} (hk : k < W.length) (hd : (W.getD k (0, 0)).1 = d) : (∃ i, i < k ∧ (W.getD i (0, 0)).1 = d ∧ ∀ j, j < i → (W.getD j (0, 0)).1 ≠ d) ∧ d ∈ (W.take k).map Prod.fst ∨ (∀ j, j < k → (W.getD j (0, 0)).1 ≠ d) ∧ d ∉ (W.take k).map Prod.fst := by
  have hg : ∀ i, i < k → (W.take k).getD i (0, 0) = W.getD i (0, 0) := fun i hi => by simp [List.getD_eq_getElem?_getD, hi]
  have hl : (W.take k).length = k := by simp; omega
  by_cases h : d ∈ (W.take k).map Prod.fst
  · obtain ⟨i, hi, e⟩ := mem_keys.1 h
    rw [hl] at hi
    rw [hg i hi] at e
    obtain ⟨j, hj, e1, e2⟩ := first_at (D := fun i => (W.getD i (0, 0)).1) ⟨i, hi, e⟩
    exact Or.inl ⟨⟨j, hj, e1, e2⟩, h⟩
  · refine Or.inr ⟨fun j hj e => h (mem_keys.2 ⟨j, by rw [hl]; exact hj, by rw [hg j hj]; exact e⟩), h⟩
abbrev Lat (w : World) := InW (fun x => Below w.heap.size w x)
theorem lat_some (w : World) : Nonempty (Lat w) := ⟨⟨w, Below.refl _ _⟩⟩
theorem lat_same {f : FuncId} {args : Array Value} {w : World} {v : Value} (h : ∀ u : Lat w, Calls Tryz.prog f args u.val fun e w' => e = .returned v ∧ w' = u.val) : ∀ u : Lat w, Calls Tryz.prog f args u.val fun e w' => e = .returned v ∧ ∃ x : Lat w, w' = x.val := fun u => (h u).mono (fun e w' ⟨he, hw⟩ => ⟨he, u, hw⟩)
theorem lat_below {f : FuncId} {args : Array Value} {w : World} {v : Value} (h : ∀ u : Lat w, Calls Tryz.prog f args u.val fun e w' => e = .returned v ∧ Below u.val.heap.size u.val w') : ∀ u : Lat w, Calls Tryz.prog f args u.val fun e w' => e = .returned v ∧ ∃ x : Lat w, w' = x.val := fun u => (h u).mono (fun e w' ⟨he, hw⟩ => ⟨he, ⟨w', below_next u.ok hw⟩, rfl⟩)
set_option maxRecDepth 100000 in
set_option maxHeartbeats 3200000 in
theorem l10Wants_any (fb : Nat) (wa : Option Addr) (wc : Nat) (W : List Wn) (fa : Option Addr) (fc : Nat) (F : List Int) (ca : Option Addr) (cc n : Nat) (D : Nat → Int) (P : Nat → List Int) (w : World) (hX : Bx3 w fb (.slice wa W.length wc) (.slice fa F.length fc) (.slice ca n cc)) (h : RdF w wa W fa F ca D P n) (hn : n ≤ 1048576) (hWl : W.length ≤ 1048576) (hFl : F.length ≤ 1048576) :
    Calls Tryz.prog 91 #[.pointer (some ⟨fb, 0, none⟩)] w fun e w' => e = .returned (.int .i64 (firstBad (wFault W F (keysC D n)) 0 W.length)) ∧ Below w.heap.size w w' := by
  have HX := hide hX
  have HW := hide h.wants
  have HF := hide h.failed
  have HC := hide h.chunks
  clear hX h
  go_enter Tryz.func91, Tryz.ntmps91
  go_wp2_with fail
  go_loopw [3, 4] (fun i _ wr => ∃ k : Nat, k ≤ W.length ∧ i = .int .i64 k ∧ Hid (Below w.heap.size w wr) ∧ Hid (firstBad (wFault W F (keysC D n)) 0 W.length = firstBad (wFault W F (keysC D n)) k (W.length - k))) (fun i _ _ => W.length - (intOf i).toNat)
  case atStart => exact ⟨0, Nat.zero_le _, rfl, hide (Below.refl _ _), hide rfl⟩
  case round =>
    obtain ⟨k, hk, rfl, BW, FB⟩ := hrel
    obtain ⟨⟨x0, x1, x2⟩, -, -, -⟩ := HX.out.below BW.out
    by_cases hlt : k < W.length
    · obtain ⟨b1, o1, rfl, hb1, hc1⟩ := HW.out (by intro e; simp [e] at hlt)
      obtain ⟨c1, c2⟩ := hc1 k hlt
      have c1 := (BW.out.cell (p := ⟨b1, o1 + k * 2, none⟩) hb1).trans c1
      have c2 := (BW.out.cell (p := ⟨b1, o1 + k * 2 + 1, none⟩) hb1).trans c2
      generalize hd : (W.getD k (0, 0)).1 = d at c1
      generalize ht : (W.getD k (0, 0)).2 = t at c2
      have HD := hide hd
      have HT := hide ht
      have hFT := first_take hlt hd
      clear hd ht hc1
      have A1 := hide (below_alloc wr (.cells #[.int .i64 d, .int .i64 t] 120))
      have hklt : (k : Int) < (W.length : Int) := by omega
      by_cases hok : okD d ∧ 0 ≤ t ∧ t < 3
      · obtain ⟨hd, ht0, ht3⟩ := hok
        have HOK := hide (And.intro hd (And.intro ht0 ht3))
        have hdk : decide (okD d) = true := decide_eq_true hd
        have hin : decide ((0 : Int) ≤ t ∧ t ≤ 2) = true := decide_eq_true (by omega)
        clear hd ht0 ht3
        go_wp2_with fail
        refine (dgS_any d _).mono ?_
        rintro e w' ⟨rfl, rfl⟩
        rw [hdk]
        go_wp2_with fail
        refine (inS_any t 0 2 _).mono ?_
        rintro e w' ⟨rfl, rfl⟩
        rw [hin]
        clear x0 x1 x2 c1 c2 hdk hin
        have P1 := hide (Two.new wr (.int .i64 d) (.int .i64 t) 120)
        have B1 := hide (below_next BW.out A1.out)
        go_upto_region 7 with fail
        generalize wr.alloc (.cells #[.int .i64 d, .int .i64 t] 120) = W1 at *
        generalize wr.heap.size = p at *
        clear A1 BW
        have f1 : ∀ u : Lat W1, u.val.cell? ⟨p, 0, none⟩ = some (.int .i64 d) := fun u => (P1.out.below u.ok).1
        have f2 : ∀ u : Lat W1, u.val.cell? ⟨fb, 1, none⟩ = some (.slice fa F.length fc) := fun u => ((HX.out.below B1.out).below u.ok).1.2.1
        have f3 : ∀ u : Lat W1, u.val.cell? ⟨fb, 2, none⟩ = some (.slice ca n cc) := fun u => ((HX.out.below B1.out).below u.ok).1.2.2
        have hne := lat_some W1
        rcases hFT with ⟨⟨i, hi, hi1, hi2⟩, hmem⟩ | ⟨hfst, hmem⟩
        · have HFF := hide (wFault_taken (F := F) (C := keysC D n) HD.out HT.out HOK.out (Or.inr (Or.inr hmem)))
          have C1 := hide (lat_same fun u : Lat W1 => l10At_yes fb (some ⟨b1, o1, none⟩) wc i W d u.val ((HX.out.below B1.out).below u.ok).1.1 ((HW.out.below B1.out).below u.ok) hWl (by omega) hi1 hi2)
          have hik : ((i : Int) != (k : Int)) = true := by simp; omega
          clear hmem hi1 hi2
          refine wp_region_inv (Inv := fun x => Below W1.heap.size W1 x) (by kernel_rfl) (by kernel_rfl) (Below.refl _ _).drew ?_
          repeat (first | go_big_quiet_step (first | (go_at_call 48; exact C1.out _)) | quiet_step (fail))
          refine wpQuiet_nil ?_
          intro _ hw'
          obtain ⟨u, hw''⟩ := hw'
          subst hw''
          have B7 := hide (below_next B1.out u.ok)
          go_wp2_with fail
          go_ret
          exact ⟨ret_int (by rw [FB.out, firstBad_hit hlt HFF.out]), B7.out⟩
        · have C1 := hide (lat_same fun u : Lat W1 => l10At_yes fb (some ⟨b1, o1, none⟩) wc k W d u.val ((HX.out.below B1.out).below u.ok).1.1 ((HW.out.below B1.out).below u.ok) hWl hlt HD.out hfst)
          have C2 := hide (lat_same fun u : Lat W1 => l2Among_any fa fc F d u.val ((HF.out.below B1.out).below u.ok) hFl)
          have hik : ((k : Int) != (k : Int)) = false := by simp
          by_cases hf : d ∈ F
          · have HFF := hide (wFault_taken (F := F) (C := keysC D n) HD.out HT.out HOK.out (Or.inr (Or.inl hf)))
            rw [show F.contains d = true by simpa using hf] at C2
            clear hmem hf hfst
            refine wp_region_inv (Inv := fun x => Below W1.heap.size W1 x) (by kernel_rfl) (by kernel_rfl) (Below.refl _ _).drew ?_
            repeat (first | go_big_quiet_step (first | (go_at_call 48; exact C1.out _) | (go_at_call 66; exact C2.out _)) | quiet_step (fail))
            refine wpQuiet_nil ?_
            intro _ hw'
            obtain ⟨u, hw''⟩ := hw'
            subst hw''
            have B7 := hide (below_next B1.out u.ok)
            go_wp2_with fail
            go_ret
            exact ⟨ret_int (by rw [FB.out, firstBad_hit hlt HFF.out]), B7.out⟩
          · rw [show F.contains d = false by simpa using hf] at C2
            by_cases hc : d ∈ keysC D n
            · have HFF := hide (wFault_taken (F := F) (C := keysC D n) HD.out HT.out HOK.out (Or.inl hc))
              obtain ⟨i, hi, hi1, hi2⟩ := first_at (mem_keysC.1 hc)
              have C3 := hide (lat_same fun u : Lat W1 => l2At_yes ca cc n i d D P u.val ((HC.out.below B1.out).below u.ok) hn hi hi1 hi2)
              have hi0 : (0 : Int) ≤ (i : Int) := by omega
              clear hmem hf hfst hi1 hi2 hc
              refine wp_region_inv (Inv := fun x => Below W1.heap.size W1 x) (by kernel_rfl) (by kernel_rfl) (Below.refl _ _).drew ?_
              repeat (first | go_big_quiet_step (first | (go_at_call 48; exact C1.out _) | (go_at_call 66; exact C2.out _) | (go_at_call 92; exact C3.out _)) | quiet_step (fail))
              refine wpQuiet_nil ?_
              intro _ hw'
              obtain ⟨u, hw''⟩ := hw'
              subst hw''
              have B7 := hide (below_next B1.out u.ok)
              go_wp2_with fail
              go_ret
              exact ⟨ret_int (by rw [FB.out, firstBad_hit hlt HFF.out]), B7.out⟩
            · have HFF := hide (wFault_none (F := F) (C := keysC D n) HD.out HT.out HOK.out (fun h => h.elim hc (fun h => h.elim hf hmem)))
              have C3 := hide (lat_same fun u : Lat W1 => l2At_no ca cc n d D P u.val ((HC.out.below B1.out).below u.ok) hn (fun j hj e => hc (mem_keysC.2 ⟨j, hj, e⟩)))
              clear hmem hf hfst hc
              refine wp_region_inv (Inv := fun x => Below W1.heap.size W1 x) (by kernel_rfl) (by kernel_rfl) (Below.refl _ _).drew ?_
              repeat (first | go_big_quiet_step (first | (go_at_call 48; exact C1.out _) | (go_at_call 66; exact C2.out _) | (go_at_call 92; exact C3.out _)) | quiet_step (fail))
              refine wpQuiet_nil ?_
              intro _ hw'
              obtain ⟨u, hw''⟩ := hw'
              subst hw''
              have B7 := hide (below_next B1.out u.ok)
              go_wp2_with fail
              go_roundw
              case rel => exact ⟨k + 1, by omega, by go_num, B7, hide (by rw [FB.out, firstBad_miss hlt HFF.out])⟩
              case measure => simp [intOf]; omega
      · have HFF := hide (wFault_range (F := F) (C := keysC D n) HD.out HT.out hok)
        by_cases hd : okD d
        · have hdk : decide (okD d) = true := decide_eq_true hd
          have hin : decide ((0 : Int) ≤ t ∧ t ≤ 2) = false := decide_eq_false (fun h => hok ⟨hd, by omega, by omega⟩)
          go_wp2_with fail
          refine (dgS_any d _).mono ?_
          rintro e w' ⟨rfl, rfl⟩
          rw [hdk]
          go_wp2_with fail
          refine (inS_any t 0 2 _).mono ?_
          rintro e w' ⟨rfl, rfl⟩
          rw [hin]
          go_wp2_with fail
          go_ret
          exact ⟨ret_int (by rw [FB.out, firstBad_hit hlt HFF.out]), below_next BW.out A1.out⟩
        · have hdk : decide (okD d) = false := decide_eq_false hd
          go_wp2_with fail
          refine (dgS_any d _).mono ?_
          rintro e w' ⟨rfl, rfl⟩
          rw [hdk]
          go_wp2_with fail
          go_ret
          exact ⟨ret_int (by rw [FB.out, firstBad_hit hlt HFF.out]), below_next BW.out A1.out⟩
    · have hkl : k = W.length := by omega
      subst hkl
      go_wp2_with fail
      go_ret
      exact ⟨ret_int (by rw [FB.out, firstBad_end (Nat.le_refl _)]), BW.out⟩
theorem Reads.take {k : IntKind} {w : World} {a : Option Addr} {zs : List Int} (h : Reads k w a zs) (m : Nat) : Reads k w a (zs.take m) := by
  intro hz
  have hp : zs ≠ [] := by rintro rfl; simp at hz
  obtain ⟨b, off, rfl, hb, hc⟩ := h hp
  refine ⟨b, off, rfl, hb, fun i hi => ?_⟩
  have hi' : i < m ∧ i < zs.length := by simpa [Nat.lt_min] using hi
  rw [hc i hi'.2]
  simp [List.getD_eq_getElem?_getD, hi'.1]
set_option maxRecDepth 100000 in
set_option maxHeartbeats 3200000 in
theorem l10Fault_any (fb : Nat) (wa : Option Addr) (wc : Nat) (W : List Wn) (fa : Option Addr) (fc : Nat) (F : List Int) (ca : Option Addr) (cc n : Nat) (D : Nat → Int) (P : Nat → List Int) (w : World) (hX : Bx3 w fb (.slice wa W.length wc) (.slice fa F.length fc) (.slice ca n cc)) (h : RdF w wa W fa F ca D P n) (hn : n ≤ 1048576) (hP : SmallP P n) (hWl : W.length ≤ 1048576) (hFl : F.length ≤ 1048576) (hfc : F.length ≤ fc) :
    Calls Tryz.prog 46 #[.pointer (some ⟨fb, 0, none⟩)] w fun e w' => e = .returned (.int .i64 (fetFault W F D P n)) ∧ Below w.heap.size w w' := by
  have HX := hide hX
  have HR := hide h
  have HP := hide hP
  clear hX h hP
  go_enter Tryz.func46, Tryz.ntmps46
  obtain ⟨⟨t0, t1, t2⟩, -, -, -⟩ := HX.out
  go_wp2_with fail
  clear t0 t1 t2
  refine (specFault_any ca cc n D P w HR.out.chunks hn HP.out).mono ?_
  rintro r w1 ⟨rfl, hb1⟩
  have B1 := hide hb1
  have X1 := hide (HX.out.below hb1)
  clear hb1
  by_cases hf : fault D P n = 0
  · have HE := hide (show fetFault W F D P n = listsFault W F (keysC D n) by rw [fetFault, hf]; simp)
    rw [hf]
    clear hf
    obtain ⟨⟨t0, t1, t2⟩, -, -, -⟩ := X1.out
    by_cases hw : 12 < W.length
    · have hw1 : (12 : Int) < (W.length : Int) := by omega
      have HL := hide (show listsFault W F (keysC D n) = 2 by rw [listsFault, if_pos (Or.inl hw)])
      go_wp2_with fail
      go_ret
      exact ⟨ret_int (by rw [HE.out, HL.out]), B1.out⟩
    · have hw1 : ¬ (12 : Int) < (W.length : Int) := by omega
      by_cases hff : 40 < F.length
      · have hf1 : (40 : Int) < (F.length : Int) := by omega
        have HL := hide (show listsFault W F (keysC D n) = 2 by rw [listsFault, if_pos (Or.inr hff)])
        go_wp2_with fail
        go_ret
        exact ⟨ret_int (by rw [HE.out, HL.out]), B1.out⟩
      · have hf1 : ¬ (40 : Int) < (F.length : Int) := by omega
        have HL := hide (show listsFault W F (keysC D n) = if firstBad (wFault W F (keysC D n)) 0 W.length ≠ 0 then firstBad (wFault W F (keysC D n)) 0 W.length else firstBad (fFault F (keysC D n)) 0 F.length by rw [listsFault, if_neg (by omega)])
        have HLL := hide (HE.out.trans HL.out)
        have HWF := hide (l10Wants_any fb wa wc W fa fc F ca cc n D P w1 X1.out (HR.out.below B1.out) hn hWl hFl)
        clear HL HE
        generalize firstBad (wFault W F (keysC D n)) 0 W.length = A at *
        go_wp2_with fail
        refine HWF.out.mono ?_
        rintro r w2 ⟨rfl, hb2⟩
        have X2 := hide (X1.out.below hb2)
        have B2 := hide (below_next B1.out hb2)
        clear hb2 HWF X1 B1 t0 t1 t2
        by_cases hA : A = 0
        · subst hA
          have HLF := hide (show fetFault W F D P n = firstBad (fFault F (keysC D n)) 0 F.length by rw [HLL.out]; simp)
          clear HLL
          go_wp2_with fail
          go_loopw [5] (fun i wr => ∃ k : Nat, k ≤ F.length ∧ i = .int .i64 k ∧ Hid (Below w2.heap.size w2 wr) ∧ Hid (firstBad (fFault F (keysC D n)) 0 F.length = firstBad (fFault F (keysC D n)) k (F.length - k))) (fun i _ => F.length - (intOf i).toNat)
          case atStart => exact ⟨0, Nat.zero_le _, rfl, hide (Below.refl _ _), hide rfl⟩
          case round =>
            obtain ⟨k, hk, rfl, BW, FB⟩ := hrel
            obtain ⟨⟨x0, x1, x2⟩, -, -, -⟩ := X2.out.below BW.out
            have BWW := hide (below_next B2.out BW.out)
            by_cases hlt : k < F.length
            · obtain ⟨b1, o1, hfa, hb1, hc1⟩ := HR.out.failed (by intro e; simp [e] at hlt)
              subst hfa
              have hcc := hc1 k hlt
              have c1 := (BWW.out.cell (p := ⟨b1, o1 + k, none⟩) hb1).trans hcc
              generalize hd : F.getD k 0 = d at hcc c1
              have HD := hide hd
              have hklt : (k : Int) < (F.length : Int) := by omega
              have hk0 : (0 : Int) ≤ (k : Int) := by omega
              clear hd hc1
              by_cases hd : okD d
              · have HOK := hide hd
                have hdk : decide (okD d) = true := decide_eq_true hd
                clear hd
                go_wp2_with fail
                refine (dgS_any d _).mono ?_
                rintro e wr ⟨rfl, rfl⟩
                rw [hdk]
                clear hdk
                go_upto_region 14 with fail
                clear x0 x1 x2 c1
                have f1 : ∀ u : Lat wr, u.val.cell? ⟨fb, 1, none⟩ = some (.slice (some ⟨b1, o1, none⟩) F.length fc) := fun u => ((X2.out.below BW.out).below u.ok).1.2.1
                have f2 : ∀ u : Lat wr, u.val.cell? ⟨fb, 2, none⟩ = some (.slice ca n cc) := fun u => ((X2.out.below BW.out).below u.ok).1.2.2
                have f3 : ∀ u : Lat wr, u.val.cell? ⟨b1, o1 + k, none⟩ = some (.int .i64 d) := fun u => ((below_next BWW.out u.ok).cell (p := ⟨b1, o1 + k, none⟩) hb1).trans hcc
                have hne := lat_some wr
                have hlk : (F.take k).length = k := by simp; omega
                have hkc : (k : Int) ≤ (fc : Int) := by omega
                have C2 : Hid (∀ u : Lat wr, Calls Tryz.prog 66 #[.slice (some ⟨b1, o1, none⟩) k fc, .int .i64 d] u.val fun e w' => e = .returned (.bool ((F.take k).contains d)) ∧ ∃ x : Lat wr, w' = x.val) := hide (lat_same fun u : Lat wr => by
                  have h1 := l2Among_any (some ⟨b1, o1, none⟩) fc (F.take k) d u.val (((HR.out.failed.below BWW.out).below u.ok).take k) (by omega)
                  rw [hlk] at h1
                  exact h1)
                clear hcc hlk
                by_cases hf : d ∈ F.take k
                · have HFF := hide (fFault_taken (C := keysC D n) HD.out HOK.out (Or.inr hf))
                  rw [show (F.take k).contains d = true by simpa using hf] at C2
                  clear hf
                  refine wp_region_inv (Inv := fun x => Below wr.heap.size wr x) (by kernel_rfl) (by kernel_rfl) (Below.refl _ _).drew ?_
                  repeat (first | go_big_quiet_step (first | (go_at_call 66; exact C2.out _)) | quiet_step (fail))
                  refine wpQuiet_nil ?_
                  intro _ hw'
                  obtain ⟨u, hw''⟩ := hw'
                  subst hw''
                  have B7 := hide (below_next BWW.out u.ok)
                  go_wp2_with fail
                  go_ret
                  exact ⟨ret_int (by rw [HLF.out, FB.out, firstBad_hit hlt HFF.out]), B7.out⟩
                · rw [show (F.take k).contains d = false by simpa using hf] at C2
                  by_cases hc : d ∈ keysC D n
                  · have HFF := hide (fFault_taken (F := F) HD.out HOK.out (Or.inl hc))
                    obtain ⟨i, hi, hi1, hi2⟩ := first_at (mem_keysC.1 hc)
                    have C3 := hide (lat_same fun u : Lat wr => l2At_yes ca cc n i d D P u.val ((HR.out.chunks.below BWW.out).below u.ok) hn hi hi1 hi2)
                    have hi0 : (0 : Int) ≤ (i : Int) := by omega
                    clear hf hi1 hi2 hc
                    refine wp_region_inv (Inv := fun x => Below wr.heap.size wr x) (by kernel_rfl) (by kernel_rfl) (Below.refl _ _).drew ?_
                    repeat (first | go_big_quiet_step (first | (go_at_call 66; exact C2.out _) | (go_at_call 92; exact C3.out _)) | quiet_step (fail))
                    refine wpQuiet_nil ?_
                    intro _ hw'
                    obtain ⟨u, hw''⟩ := hw'
                    subst hw''
                    have B7 := hide (below_next BWW.out u.ok)
                    go_wp2_with fail
                    go_ret
                    exact ⟨ret_int (by rw [HLF.out, FB.out, firstBad_hit hlt HFF.out]), B7.out⟩
                  · have HFF := hide (fFault_none (C := keysC D n) HD.out HOK.out (fun h => h.elim hc hf))
                    have C3 := hide (lat_same fun u : Lat wr => l2At_no ca cc n d D P u.val ((HR.out.chunks.below BWW.out).below u.ok) hn (fun j hj e => hc (mem_keysC.2 ⟨j, hj, e⟩)))
                    clear hf hc
                    refine wp_region_inv (Inv := fun x => Below wr.heap.size wr x) (by kernel_rfl) (by kernel_rfl) (Below.refl _ _).drew ?_
                    repeat (first | go_big_quiet_step (first | (go_at_call 66; exact C2.out _) | (go_at_call 92; exact C3.out _)) | quiet_step (fail))
                    refine wpQuiet_nil ?_
                    intro _ hw'
                    obtain ⟨u, hw''⟩ := hw'
                    subst hw''
                    have B7 := hide (below_next BW.out u.ok)
                    go_wp2_with fail
                    go_roundw
                    case rel => exact ⟨k + 1, by omega, by go_num, B7, hide (by rw [FB.out, firstBad_miss hlt HFF.out])⟩
                    case measure => simp [intOf]; omega
              · have HFF := hide (fFault_range (C := keysC D n) HD.out hd)
                have hdk : decide (okD d) = false := decide_eq_false hd
                go_wp2_with fail
                refine (dgS_any d _).mono ?_
                rintro e wr ⟨rfl, rfl⟩
                rw [hdk]
                go_wp2_with fail
                go_ret
                exact ⟨ret_int (by rw [HLF.out, FB.out, firstBad_hit hlt HFF.out]), BWW.out⟩
            · have hkl : k = F.length := by omega
              subst hkl
              go_wp2_with fail
              go_ret
              exact ⟨ret_int (by rw [HLF.out, FB.out, firstBad_end (Nat.le_refl _)]), BWW.out⟩
        · have hA1 : (A != 0) = true := by simpa using hA
          go_wp2_with fail
          go_ret
          exact ⟨ret_int (by rw [HLL.out, if_pos hA]), B2.out⟩
  · have hf1 : (fault D P n != 0) = true := by simpa using hf
    have HE := hide (show fetFault W F D P n = fault D P n by rw [fetFault, if_pos hf])
    generalize fault D P n = A at *
    clear hf
    go_wp2_with fail
    go_ret
    exact ⟨ret_int (by rw [HE.out]), B1.out⟩
end Go.Proofs.YtfamiehfpmjljaaGreatDoor

namespace Go.Proofs.YtfamiehfpmjljaaGreatDoor
open Go.RowKit Go.Maps
set_option linter.unusedVariables false

theorem Tryz.infoWn : (Tryz.prog.info? 120).map (fun i => (i.zero, i.size, i.bytes)) = some (some (.agg #[.int .i64 0, .int .i64 0]), 2, 16) := by kernel_rfl
def laidW (j : Nat) (W : List Wn) (i : Nat) : List Value := if i < j then [.int .i64 (W.getD i (0, 0)).1, .int .i64 (W.getD i (0, 0)).2] else [.int .i64 0, .int .i64 0]
theorem laidW_length (j : Nat) (W : List Wn) (i : Nat) : (laidW j W i).length = 2 := by unfold laidW; split <;> rfl
theorem laidW_zero (n : Nat) (W : List Wn) : (madeCells #[Value.int .i64 0, .int .i64 0] (n * 2)).toList = flat n (laidW 0 W) := by
  have hl := flat_length (n := n) (k := 2) (F := laidW 0 W) (fun i _ => laidW_length _ _ _)
  apply List.ext_getElem?
  intro p
  by_cases hp : p < n * 2
  · have e : p = p / 2 * 2 + p % 2 := by omega
    have h1 : p / 2 < n := by omega
    have h2 : p % 2 < 2 := by omega
    rw [e, flat_get (fun i _ => laidW_length _ _ _) _ _ h1 h2]
    rw [← e]
    have hm : p % 2 = 0 ∨ p % 2 = 1 := by omega
    rcases hm with hm | hm <;> simp [madeCells, hp, hm, laidW]
  · rw [List.getElem?_eq_none (by simp [madeCells]; omega), List.getElem?_eq_none (by omega)]
theorem laidW_step {n k : Nat} {W : List Wn} (hk : k < n) :
    ((flat n (laidW k W)).set (k * 2) (.int .i64 (W.getD k (0, 0)).1)).set (k * 2 + 1) (.int .i64 (W.getD k (0, 0)).2) = flat n (laidW (k + 1) W) := by
  have e := flat_set (n := n) (k := 2) (F := laidW k W) (fun i _ => laidW_length _ _ _) k 0 hk (by decide) (.int .i64 (W.getD k (0, 0)).1)
  rw [Nat.add_zero] at e
  rw [e, flat_set (k := 2) (fun i _ => by by_cases h : i = k <;> simp [h, laidW_length]) k 1 hk (by decide)]
  apply flat_congr
  intro i hi
  by_cases h : i = k
  · subst h
    simp [laidW]
  · by_cases h2 : i < k
    · have h3 : i < k + 1 := by omega
      simp [h, laidW, h2, h3]
    · have h3 : ¬ i < k + 1 := by omega
      simp [h, laidW, h2, h3]
def OwnW (B : Nat) (w : World) (v : Value) (W : List Wn) : Prop := w.ownsRow B 120 2 v W.length (flat W.length (laidW W.length W))
theorem OwnW.rd {B : Nat} {w : World} {a : Option Addr} {n c : Nat} {W : List Wn} (h : OwnW B w (.slice a n c) W) : RdW w a W := by
  intro hz
  have h0 : 0 < W.length := List.length_pos_iff.2 hz
  have hr := h
  unfold OwnW at hr
  rcases hr.2 with ⟨h', hh⟩ | ⟨g, cap, cur, h', hb, hh, hnc, hcm, hcs, htake⟩
  · omega
  · have hl : n = W.length ∧ a = some ⟨g, 0, none⟩ := by simp only [Value.slice.injEq] at h'; exact ⟨h'.2.1, h'.1⟩
    obtain ⟨rfl, rfl⟩ := hl
    refine ⟨g, 0, rfl, (hr.lt g rfl).2, fun i hi => ?_⟩
    have hf := flat_get (n := W.length) (k := 2) (F := laidW W.length W) (fun i _ => laidW_length _ _ _) i
    have c0 := World.ownsRow.cellAt hr (i * 2) (by omega)
    have c1 := World.ownsRow.cellAt hr (i * 2 + 1) (by omega)
    have f0 := hf 0 hi (by decide)
    have f1 := hf 1 hi (by decide)
    rw [Nat.add_zero] at f0
    rw [f0] at c0
    rw [f1] at c1
    simp only [laidW, if_pos hi] at c0 c1
    exact ⟨by simpa using c0, by simpa [Nat.add_assoc] using c1⟩
theorem OwnW.below {B : Nat} {w w' : World} {v : Value} {W : List Wn} (h : OwnW B w v W) (hk : Below w.heap.size w w') : OwnW B w' v W := ownsRow_below h hk
theorem OwnW.kept {S : Nat → Prop} {B : Nat} {w w' : World} {v : Value} {W : List Wn} (h : OwnW B w v W) (hk : Kept S w w') (hn : ∀ b, B ≤ b → ¬ S b) : OwnW B w' v W := ownsRow_kept h hk (fun b hb => hn b (World.ownsRow.lt h b hb).1)
theorem OwnW.mono {B B' : Nat} {w : World} {v : Value} {W : List Wn} (h : OwnW B w v W) (hb : B' ≤ B) : OwnW B' w v W := ownsRow_mono h hb
theorem OwnW.nil (B : Nat) (w : World) : OwnW B w (.slice none 0 0) [] := World.ownsRow_nil _ _ _ _
theorem laidW_snoc (W : List Wn) (d t : Int) : flat (W.length + 1) (laidW (W.length + 1) (W ++ [(d, t)])) = flat W.length (laidW W.length W) ++ [.int .i64 d, .int .i64 t] := by
  rw [flat_succ]
  congr 1
  · apply flat_congr
    intro i hi
    have h1 : i < W.length + 1 := by omega
    simp only [laidW, if_pos hi, if_pos h1, getD_snoc hi]
  · simp only [laidW, if_pos (Nat.lt_succ_self _), getD_last]
theorem OwnW.push {B : Nat} {w : World} {v : Value} {W : List Wn} {d t : Int} (h : w.ownsRow B 120 2 v (W.length + 1) (flat W.length (laidW W.length W) ++ [.int .i64 d, .int .i64 t])) : OwnW B w v (W ++ [(d, t)]) := by
  unfold OwnW
  rw [List.length_append, List.length_singleton, laidW_snoc]
  exact h
end Go.Proofs.YtfamiehfpmjljaaGreatDoor

namespace Go.Proofs.YtfamiehfpmjljaaGreatDoor
open Go.ChangeShapes Go.WideShapes Go.ChangeAt Go.RowKit
set_option linter.unusedVariables false

theorem bytes_of_trod {H : Type} {enc : TypeId × Value → H} {W : World} {a : Option Addr} {n c fuel : Nat} {x : DataW H × List MemPlace}
    (h : DataW.trod enc Tryz.prog W 0 (fun _ => true) true fuel 22 [.slice a n c] = some x) : ∃ zs : List Int, zs.length = n ∧ Reads .u8 W a zs ∧ U8 zs ∧ zs.length ≤ maxLen := by
  rcases open_ints Tryz.underlying22 Tryz.underlying5 (by kernel_rfl) h with ⟨hcs, _⟩ | ⟨x, l, c, zs, hcs, _, hl, hm, hz, _, hcell, hwz⟩
  · simp at hcs
    obtain ⟨rfl, rfl, rfl⟩ := hcs
    exact ⟨[], rfl, fun h => absurd rfl h, fun z hz => by simp at hz, Nat.zero_le _⟩
  · simp at hcs
    obtain ⟨rfl, rfl, rfl⟩ := hcs
    exact reads_of_row (by simpa using hz) hl hm hcell hwz

theorem reads_of_row64 {W : World} {x : Addr} {l c : Nat} {zs : List Int} (hz : zs.length = c) (hl : l ≤ c) (hm : c ≤ maxLen) (hcell : ∀ i, i < zs.length → W.cell? (x.add i) = some (.int .i64 (zs.getD i 0))) (hwz : ∀ n ∈ zs, (Lit.int .i64 n).wf = true) :
    ∃ ys : List Int, ys.length = l ∧ Reads .i64 W (some x) ys ∧ (∀ z ∈ ys, (Lit.int .i64 z).wf = true) ∧ ys.length ≤ maxLen := by
  have hlen : (zs.take l).length = l := by simp; omega
  refine ⟨zs.take l, hlen, ?_, fun z hz' => hwz z (List.mem_of_mem_take hz'), by omega⟩
  intro hne
  have h0 : 0 < l := by
    rcases Nat.eq_zero_or_pos l with h | h
    · subst h; exact absurd rfl hne
    · exact h
  obtain ⟨b, off, spot⟩ := x
  have hc := hcell 0 (by omega)
  have hspot : spot = none := by simpa [Addr.add] using World.cell?_spot hc
  subst hspot
  refine ⟨b, off, rfl, World.block_lt_of_cell? W _ (by simpa [Addr.add] using hc), fun i hi => ?_⟩
  have := hcell i (by omega)
  have e : (zs.take l).getD i 0 = zs.getD i 0 := by
    have h2 : i < l := by omega
    simp [List.getD_eq_getElem?_getD, h2]
  rw [e]
  have ea : (⟨b, off, none⟩ : Addr).add i = ⟨b, off + i, none⟩ := by unfold Addr.add; split <;> simp_all
  rw [ea] at this
  exact this

theorem ints_of_trod {H : Type} {enc : TypeId × Value → H} {W : World} {a : Option Addr} {n c fuel : Nat} {x : DataW H × List MemPlace}
    (h : DataW.trod enc Tryz.prog W 0 (fun _ => true) true fuel 25 [.slice a n c] = some x) : ∃ zs : List Int, zs.length = n ∧ Reads .i64 W a zs ∧ (∀ z ∈ zs, (Lit.int .i64 z).wf = true) ∧ zs.length ≤ maxLen := by
  rcases open_ints Tryz.underlying25 Tryz.underlying2 (by kernel_rfl) h with ⟨hcs, _⟩ | ⟨x, l, c, zs, hcs, _, hl, hm, hz, _, hcell, hwz⟩
  · simp at hcs
    obtain ⟨rfl, rfl, rfl⟩ := hcs
    exact ⟨[], rfl, fun h => absurd rfl h, fun z hz => by simp at hz, Nat.zero_le _⟩
  · simp at hcs
    obtain ⟨rfl, rfl, rfl⟩ := hcs
    exact reads_of_row64 (by simpa using hz) hl hm hcell hwz

theorem rdC_of_trod {H : Type} {enc : TypeId × Value → H} {W : World} {a : Option Addr} {n c fuel : Nat} {x : DataW H × List MemPlace}
    (h : DataW.trod enc Tryz.prog W 0 (fun _ => true) true fuel 49 [.slice a n c] = some x) :
    ∃ (D : Nat → Int) (P : Nat → List Int), RdC W a D P n ∧ n ≤ maxLen ∧ ∀ i, i < n → (Lit.int .i64 (D i)).wf = true ∧ U8 (P i) ∧ (P i).length ≤ maxLen := by
  rcases Deep.open_slice_pairs Tryz.underlying49 Tryz.underlying143 (by kernel_rfl) rfl rfl (by kernel_rfl) (by kernel_rfl) h with ⟨hcs, _⟩ | ⟨x, l, cp, m, fu, V0, V1, D0, D1, P0, P1, hcs, _, hl, hm, hmm, _, hx⟩
  · simp at hcs
    obtain ⟨rfl, rfl, rfl⟩ := hcs
    exact ⟨fun _ => 0, fun _ => [], fun h => absurd h (by omega), Nat.zero_le _, fun i hi => absurd hi (by omega)⟩
  · simp at hcs
    obtain ⟨rfl, rfl, rfl⟩ := hcs
    simp only [if_true] at hmm
    subst hmm
    have each : ∀ i, i < n → ∃ q : Int × List Int × Option Addr × Nat, V0 i = .int .i64 q.1 ∧ V1 i = .slice q.2.2.1 q.2.1.length q.2.2.2 ∧ Reads .u8 W q.2.2.1 q.2.1 ∧ (Lit.int .i64 q.1).wf = true ∧ U8 q.2.1 ∧ q.2.1.length ≤ maxLen := by
      intro i hi
      obtain ⟨c0, c1, t0, t1⟩ := hx i (by omega)
      obtain ⟨z, hz, _, hw⟩ := DataW.trod_int Tryz.underlying2 t0
      obtain ⟨a1, n1, k1, e1⟩ : ∃ a1 n1 k1, V1 i = .slice a1 n1 k1 := by
        rcases open_ints Tryz.underlying22 Tryz.underlying5 (by kernel_rfl) t1 with ⟨hcs, _⟩ | ⟨x, l, c, zs, hcs, _⟩
        · simp at hcs; exact ⟨_, _, _, hcs⟩
        · simp at hcs; exact ⟨_, _, _, hcs⟩
      rw [e1] at t1
      obtain ⟨zs, rfl, hr, hu, hml⟩ := bytes_of_trod t1
      simp at hz
      exact ⟨(z, zs, a1, k1), hz, e1, hr, hw, hu, hml⟩
    haveI : Inhabited (Int × List Int × Option Addr × Nat) := ⟨(0, [], none, 0)⟩
    obtain ⟨q, hq⟩ := Deep.choose_lt each
    refine ⟨fun i => (q i).1, fun i => (q i).2.1, ?_, by omega, fun i hi => (hq i hi).2.2.2⟩
    intro hn
    obtain ⟨b, off, spot⟩ := x
    have hc0 := (hx 0 (by omega)).1
    have hspot : spot = none := by simpa [Addr.add] using World.cell?_spot hc0
    subst hspot
    refine ⟨b, off, fun i => (q i).2.2.1, fun i => (q i).2.2.2, rfl, World.block_lt_of_cell? W _ (by simpa [Addr.add] using hc0), fun i hi => ?_⟩
    obtain ⟨c0, c1, _, _⟩ := hx i (by omega)
    obtain ⟨e0, e1, hr, _⟩ := hq i hi
    have ea : ∀ t, (⟨b, off, none⟩ : Addr).add t = ⟨b, off + t, none⟩ := fun t => by unfold Addr.add; split <;> simp_all
    rw [ea, e0] at c0
    rw [ea, e1] at c1
    exact ⟨c0, by rw [Nat.add_assoc]; exact c1, hr⟩

end Go.Proofs.YtfamiehfpmjljaaGreatDoor

namespace Go.Proofs.YtfamiehfpmjljaaGreatDoor
open Go.ChangeShapes Go.WideShapes Go.ChangeAt Go.RowKit Go.Maps
set_option linter.unusedVariables false

set_option maxHeartbeats 400000 in
theorem toWant_any (d t : Int) (w : World) : Calls Tryz.prog 109 #[.agg #[.int .i64 d, .int .i64 t]] w fun e w' => e = .returned (.agg #[.int .i64 d, .int .i64 t]) ∧ Below w.heap.size w w' := by
  go_enter Tryz.func109, Tryz.ntmps109
  go_wp2
  exact bodyPost_ret (v := .agg #[.int .i64 d, .int .i64 t]) (by simp [results, Tryz.results109, go_sem]) rfl ⟨rfl, below_next (below_next (below_alloc _ _) (below_alloc _ _)) (below_alloc _ _)⟩
set_option maxHeartbeats 400000 in
theorem eqWant_same (d t : Int) (w : World) : Calls Tryz.prog 111 #[.agg #[.int .i64 d, .int .i64 t], .agg #[.int .i64 d, .int .i64 t]] w fun e w' => e = .returned (.bool true) ∧ Below w.heap.size w w' := by
  go_enter Tryz.func111, Tryz.ntmps111
  go_wp2
  go_ret
  exact ⟨rfl, below_next (below_alloc _ _) (below_alloc _ _)⟩
set_option maxHeartbeats 800000 in
theorem eqWantS_same (a b : Option Addr) (ca cb : Nat) (W : List Wn) (w : World) (ha : RdW w a W) (hb : RdW w b W) (hl : W.length ≤ 1048576) :
    Calls Tryz.prog 77 #[.slice a W.length ca, .slice b W.length cb] w fun e w' => e = .returned (.bool true) ∧ Below w.heap.size w w' := by
  have hne : ((W.length : Int) != (W.length : Int)) = false := by simp
  have HA := hide ha
  have HB := hide hb
  clear ha hb
  go_enter Tryz.func77, Tryz.ntmps77
  go_wp2
  go_loopw [5] (fun i wr => ∃ k : Nat, k ≤ W.length ∧ i = .int .i64 k ∧ Below w.heap.size w wr) (fun i _ => W.length - (intOf i).toNat)
  case atStart => exact ⟨0, Nat.zero_le _, rfl, Below.refl _ _⟩
  case round =>
    obtain ⟨k, hk, rfl, hbel⟩ := hrel
    have HW := hide hbel
    clear hbel
    by_cases hlt : k < W.length
    · obtain ⟨b1, o1, rfl, hb1, hc1⟩ := (HA.out.below HW.out) (by intro e; simp [e] at hlt)
      obtain ⟨b2, o2, rfl, hb2, hc2⟩ := (HB.out.below HW.out) (by intro e; simp [e] at hlt)
      obtain ⟨c1, e1⟩ := hc1 k hlt
      obtain ⟨c2, e2⟩ := hc2 k hlt
      generalize (W.getD k (0, 0)).1 = d at c1 c2
      generalize (W.getD k (0, 0)).2 = t at e1 e2
      have f1 : ∀ u : Lat wr, u.val.cell? ⟨b1, o1 + k * 2, none⟩ = some (.int .i64 d) := fun u => (u.ok.cell (p := ⟨b1, o1 + k * 2, none⟩) hb1).trans c1
      have f2 : ∀ u : Lat wr, u.val.cell? ⟨b1, o1 + k * 2 + 1, none⟩ = some (.int .i64 t) := fun u => (u.ok.cell (p := ⟨b1, o1 + k * 2 + 1, none⟩) hb1).trans e1
      have f3 : ∀ u : Lat wr, u.val.cell? ⟨b2, o2 + k * 2, none⟩ = some (.int .i64 d) := fun u => (u.ok.cell (p := ⟨b2, o2 + k * 2, none⟩) hb2).trans c2
      have f4 : ∀ u : Lat wr, u.val.cell? ⟨b2, o2 + k * 2 + 1, none⟩ = some (.int .i64 t) := fun u => (u.ok.cell (p := ⟨b2, o2 + k * 2 + 1, none⟩) hb2).trans e2
      have hne2 := lat_some wr
      have C1 := hide (lat_below fun u : Lat wr => eqWant_same d t u.val)
      clear hc1 hc2 c1 c2 e1 e2
      go_wp2
      refine wp_region_inv (Inv := fun x => Below wr.heap.size wr x) (by kernel_rfl) (by kernel_rfl) (Below.refl _ _).drew ?_
      repeat (first | go_big_quiet_step ((go_at_call 111; exact C1.out _)) | quiet_step (fail))
      refine wpQuiet_nil ?_
      intro _ hw'
      obtain ⟨u, hw''⟩ := hw'
      subst hw''
      have B7 := hide (below_next HW.out u.ok)
      clear f1 f2 f3 f4
      go_wp2
      go_roundw
      case rel => exact ⟨k + 1, by omega, by go_num, B7.out⟩
      case measure => simp [intOf]; omega
    · go_wp2
      go_ret
      exact ⟨rfl, HW.out⟩
set_option maxHeartbeats 400000 in
theorem szWantS_fits (a : Option Addr) (n c : Nat) (left : Int) (w : World) (h0 : left ≤ 1048576) (hn : (n : Int) ≤ left) :
    Calls Tryz.prog 70 #[.slice a n c, .int .i64 left] w fun e w' => e = .returned (.int .i64 (left - n)) ∧ w' = w := by
  have hw : IntKind.i64.wrap (left - n) = left - n := by simp [IntKind.wrap, IntKind.signed, IntKind.bits]; omega
  have hl : ¬ left - (n : Int) < 0 := by omega
  go_enter Tryz.func70, Tryz.ntmps70
  go_wp2
  go_ret
  exact ⟨rfl, rfl⟩
set_option maxHeartbeats 400000 in
theorem szWantS_not (a : Option Addr) (n c : Nat) (left : Int) (w : World) (h0 : 0 ≤ left) (hl : left ≤ 1048576) (hm : (n : Int) ≤ 9223372036854775807) (hn : left < (n : Int)) :
    Calls Tryz.prog 70 #[.slice a n c, .int .i64 left] w fun e w' => e = .returned (.int .i64 (-1)) ∧ w' = w := by
  have hw : IntKind.i64.wrap (left - n) = left - n := by simp [IntKind.wrap, IntKind.signed, IntKind.bits]; omega
  have hl2 : left - (n : Int) < 0 := by omega
  go_enter Tryz.func70, Tryz.ntmps70
  go_wp2
  go_ret
  exact ⟨rfl, rfl⟩
set_option maxHeartbeats 1600000 in
theorem toWantS_any (a : Option Addr) (c : Nat) (W : List Wn) (w : World) (h : RdW w a W) (hn : W.length ≤ 1048576) :
    Calls Tryz.prog 74 #[.slice a W.length c] w fun e w' => ∃ G, e = .returned (.slice (some ⟨G, 0, none⟩) W.length W.length) ∧ w.heap.size ≤ G ∧ OwnW w.heap.size w' (.slice (some ⟨G, 0, none⟩) W.length W.length) W ∧ Below w.heap.size w w' := by
  obtain ⟨i1, ki, kz0, kz1, kz2⟩ := info_parts Tryz.infoWn
  have HA := hide h
  clear h
  have hby : i1.bytes * W.length ≤ 281474976710656 := by rw [kz2]; omega
  have hml : W.length ≤ maxLen := by unfold maxLen; omega
  go_enter Tryz.func74, Tryz.ntmps74
  go_wp2_with (at_make; refine wpList_make_full _ rfl (.tmp 6) (.tmp 6) 24 rfl w.heap.size 120 i1 (.agg #[.int .i64 0, .int .i64 0]) 2 Tryz.underlying24 ki kz0 kz1 .i64 .i64 _ _ W.length rfl rfl rfl rfl hby hml (Nat.le_refl _) ?_; intro w1 ho1 hg1; have HO1 := hide ho1; have HG1 := hide hg1; clear ho1 hg1)
  have T1 : Hid (w1.ownsRow w.heap.size 120 2 (.slice (some ⟨w.heap.size, 0, none⟩) W.length W.length) W.length (flat W.length (laidW 0 W))) := by
    rw [← laidW_zero W.length W]
    exact HO1.out
  have B1 : Hid (Below w.heap.size w w1) := (Below.refl _ _).grown HG1.out (Nat.le_refl _) (fun k hk => by simp at hk)
  clear HO1 HG1
  go_loopw [4] (fun i wr => ∃ k : Nat, k ≤ W.length ∧ i = .int .i64 k ∧ Hid (wr.ownsRow w.heap.size 120 2 (.slice (some ⟨w.heap.size, 0, none⟩) W.length W.length) W.length (flat W.length (laidW k W))) ∧ Hid (Below w.heap.size w wr)) (fun i _ => W.length - (intOf i).toNat)
  case atStart => exact ⟨0, Nat.zero_le _, rfl, T1, B1⟩
  case round =>
    obtain ⟨k, hk, rfl, HT, HW⟩ := hrel
    have hsz := HW.out.size
    clear T1 B1
    by_cases hlt : k < W.length
    · obtain ⟨b1, o1, rfl, hb1, hc1⟩ := (HA.out.below HW.out) (by intro e; simp [e] at hlt)
      obtain ⟨c1, c2⟩ := hc1 k hlt
      have hf := flat_get (n := W.length) (k := 2) (F := laidW k W) (fun i _ => laidW_length _ _ _) k
      have hz0 : (flat W.length (laidW k W))[k * 2]? = some (.int .i64 0) := by
        have := hf 0 hlt (by decide)
        rw [Nat.add_zero] at this
        rw [this]; simp [laidW]
      have hz1 : (flat W.length (laidW k W))[k * 2 + 1]? = some (.int .i64 0) := by
        rw [hf 1 hlt (by decide)]; simp [laidW]
      have Z0 := hide hz0
      have Z1 := hide hz1
      have HS := hide (laidW_step (n := W.length) (W := W) hlt)
      clear hf hz0 hz1 hc1
      generalize (W.getD k (0, 0)).1 = d at *
      generalize (W.getD k (0, 0)).2 = t at *
      go_wp2_with (go_at_call 109; refine (toWant_any d t _).mono ?_; rintro e w2 ⟨rfl, hb⟩; have k1 := ownsRow_below HT.out hb; have m0 : w2.cell? ⟨w.heap.size, k * 2, none⟩ = some (.int .i64 0) := (k1.cellAt (k * 2) (by omega)).trans Z0.out; have m1 : w2.cell? ⟨w.heap.size, k * 2 + 1, none⟩ = some (.int .i64 0) := (k1.cellAt (k * 2 + 1) (by omega)).trans Z1.out; have m2 := k1.frozenAt (k * 2); have m3 := k1.frozenAt (k * 2 + 1); have K1 := hide k1; have HB2 := hide hb; clear k1 hb)
      go_roundw
      case rel => exact ⟨k + 1, by omega, by go_num, hide (by have := ((K1.out.stored (k * 2) (.int .i64 d)).1.stored (k * 2 + 1) (.int .i64 t)).1; rwa [HS.out] at this), hide (((below_next HW.out HB2.out).setCell (p := ⟨w.heap.size, k * 2, none⟩) (Nat.le_refl _) _).setCell (p := ⟨w.heap.size, k * 2 + 1, none⟩) (Nat.le_refl _) _)⟩
      case measure => simp [intOf]; omega
    · have hke : k = W.length := by omega
      subst hke
      go_wp2
      go_ret
      exact ⟨_, rfl, Nat.le_refl _, HT.out, HW.out⟩
set_option maxHeartbeats 400000 in
theorem szIs_fits (a : Option Addr) (n c : Nat) (left : Int) (w : World) (h0 : left ≤ 1048576) (hn : (n : Int) ≤ left) :
    Calls Tryz.prog 71 #[.slice a n c, .int .i64 left] w fun e w' => e = .returned (.int .i64 (left - n)) ∧ w' = w := by
  have hb : ¬ (left - (n : Int)) < 0 := by omega
  go_enter Tryz.func71, Tryz.ntmps71
  go_wp2
  go_ret
  exact ⟨rfl, rfl⟩
set_option maxHeartbeats 400000 in
theorem szIs_not (a : Option Addr) (n c : Nat) (left : Int) (w : World) (h0 : 0 ≤ left) (hl : left ≤ 1048576) (hm : (n : Int) ≤ 9223372036854775807) (hn : left < (n : Int)) :
    Calls Tryz.prog 71 #[.slice a n c, .int .i64 left] w fun e w' => e = .returned (.int .i64 (-1)) ∧ w' = w := by
  have hb : (left - (n : Int)) < 0 := by omega
  go_enter Tryz.func71, Tryz.ntmps71
  go_wp2
  go_ret
  exact ⟨rfl, rfl⟩
set_option maxHeartbeats 800000 in
theorem szFetch_fits (wa : Option Addr) (wc : Nat) (W : List Wn) (fa : Option Addr) (fc : Nat) (F : List Int) (ca : Option Addr) (cc n : Nat) (D : Nat → Int) (P : Nat → List Int) (w : World) (h : RdF w wa W fa F ca D P n) (hn : (W.length : Int) + F.length + n + ahead P n ≤ 1048576) :
    Calls Tryz.prog 23 #[fetV wa W.length wc fa F.length fc ca n cc, .int .i64 1048576] w fun e w' => e = .returned (.int .i64 (1048576 - W.length - F.length - n - ahead P n)) ∧ Below w.heap.size w w' := by
  have B0 := hide (below_alloc w (.cells #[.slice wa W.length wc, .slice fa F.length fc, .slice ca n cc] 51))
  have HC := hide (szChunkS_fits ca cc n D P (1048576 - W.length - F.length) _ (h.chunks.below B0.out) (by omega) (by omega))
  have h1 : ¬ (1048576 : Int) - W.length < 0 := by omega
  have h2 : ¬ (1048576 : Int) - W.length - F.length < 0 := by omega
  have h3 : ¬ (1048576 : Int) - W.length - F.length - n - ahead P n < 0 := by omega
  have HW1 := hide (show (W.length : Int) ≤ 1048576 by omega)
  have HF1 := hide (show (1048576 : Int) - W.length ≤ 1048576 ∧ (F.length : Int) ≤ 1048576 - W.length by omega)
  clear h hn
  unfold fetV
  go_enter Tryz.func23, Tryz.ntmps23
  go_wp2_with fail
  refine (szWantS_fits wa W.length wc 1048576 _ (by decide) HW1.out).mono ?_
  rintro e w1 ⟨rfl, rfl⟩
  go_wp2_with fail
  refine (szIs_fits fa F.length fc (1048576 - W.length) _ HF1.out.1 HF1.out.2).mono ?_
  rintro e w1 ⟨rfl, rfl⟩
  go_wp2_with fail
  refine HC.out.mono ?_
  rintro e w1 ⟨rfl, hb1⟩
  have B1 := hide (below_next B0.out hb1)
  clear hb1 B0
  go_wp2_with fail
  go_ret
  exact ⟨rfl, B1.out⟩
set_option maxHeartbeats 1600000 in
theorem szFetch_not (wa : Option Addr) (wc : Nat) (W : List Wn) (fa : Option Addr) (fc : Nat) (F : List Int) (ca : Option Addr) (cc n : Nat) (D : Nat → Int) (P : Nat → List Int) (w : World) (h : RdF w wa W fa F ca D P n) (hWm : W.length ≤ maxLen) (hFm : F.length ≤ maxLen) (hnm : n ≤ maxLen) (hPm : ∀ i, i < n → ((P i).length : Int) ≤ 9223372036854775807) (hn : ¬ (W.length : Int) + F.length + n + ahead P n ≤ 1048576) :
    Calls Tryz.prog 23 #[fetV wa W.length wc fa F.length fc ca n cc, .int .i64 1048576] w fun e w' => e = .returned (.int .i64 (-1)) ∧ Below w.heap.size w w' := by
  unfold maxLen at hWm hFm hnm
  have B0 := hide (below_alloc w (.cells #[.slice wa W.length wc, .slice fa F.length fc, .slice ca n cc] 51))
  unfold fetV
  by_cases c1 : (W.length : Int) ≤ 1048576
  · have h1 : ¬ (1048576 : Int) - W.length < 0 := by omega
    by_cases c2 : (F.length : Int) ≤ 1048576 - W.length
    · have h2 : ¬ (1048576 : Int) - W.length - F.length < 0 := by omega
      have HC := hide (szChunkS_not ca cc n D P (1048576 - W.length - F.length) _ (h.chunks.below B0.out) (by omega) (by omega) (by omega) hPm (by omega))
      have C1 := hide c1
      have C2 := hide (show (1048576 : Int) - W.length ≤ 1048576 ∧ (F.length : Int) ≤ 1048576 - W.length by omega)
      clear h hn hPm c1 c2
      go_enter Tryz.func23, Tryz.ntmps23
      go_wp2_with fail
      refine (szWantS_fits wa W.length wc 1048576 _ (by decide) C1.out).mono ?_
      rintro e w1 ⟨rfl, rfl⟩
      go_wp2_with fail
      refine (szIs_fits fa F.length fc (1048576 - W.length) _ C2.out.1 C2.out.2).mono ?_
      rintro e w1 ⟨rfl, rfl⟩
      go_wp2_with fail
      refine HC.out.mono ?_
      rintro e w1 ⟨rfl, hb1⟩
      have B1 := hide (below_next B0.out hb1)
      clear hb1 B0
      go_wp2_with fail
      go_ret
      exact ⟨rfl, B1.out⟩
    · have C1 := hide c1
      have C2 := hide (show (0 : Int) ≤ 1048576 - W.length ∧ (1048576 : Int) - W.length ≤ 1048576 ∧ (F.length : Int) ≤ 9223372036854775807 ∧ (1048576 : Int) - W.length < F.length by omega)
      clear h hn hPm c1 c2
      go_enter Tryz.func23, Tryz.ntmps23
      go_wp2_with fail
      refine (szWantS_fits wa W.length wc 1048576 _ (by decide) C1.out).mono ?_
      rintro e w1 ⟨rfl, rfl⟩
      go_wp2_with fail
      refine (szIs_not fa F.length fc (1048576 - W.length) _ C2.out.1 C2.out.2.1 C2.out.2.2.1 C2.out.2.2.2).mono ?_
      rintro e w1 ⟨rfl, rfl⟩
      go_wp2_with fail
      go_ret
      exact ⟨rfl, B0.out⟩
  · have C1 := hide (show (W.length : Int) ≤ 9223372036854775807 ∧ (1048576 : Int) < W.length by omega)
    clear h hn hPm c1
    go_enter Tryz.func23, Tryz.ntmps23
    go_wp2_with fail
    refine (szWantS_not wa W.length wc 1048576 _ (by decide) (by decide) C1.out.1 C1.out.2).mono ?_
    rintro e w1 ⟨rfl, rfl⟩
    go_wp2_with fail
    go_ret
    exact ⟨rfl, B0.out⟩
set_option maxHeartbeats 800000 in
theorem eqFetch_same (wa wa2 : Option Addr) (wc wc2 : Nat) (W : List Wn) (fa fa2 : Option Addr) (fc fc2 : Nat) (F : List Int) (ca ca2 : Option Addr) (cc cc2 n : Nat) (D : Nat → Int) (P : Nat → List Int) (w : World) (h : RdF w wa W fa F ca D P n) (h2 : RdF w wa2 W fa2 F ca2 D P n) (hW : W.length ≤ 1048576) (hF : F.length ≤ 1048576) (hn : n ≤ 1048576) (hP : ∀ i, i < n → (P i).length ≤ 1048576) :
    Calls Tryz.prog 27 #[fetV wa W.length wc fa F.length fc ca n cc, fetV wa2 W.length wc2 fa2 F.length fc2 ca2 n cc2] w fun e w' => e = .returned (.bool true) ∧ Below w.heap.size w w' := by
  have HA := hide h
  have HB := hide h2
  have HP := hide hP
  clear h h2 hP
  unfold fetV
  have B0 := hide (below_next (below_alloc w (.cells #[.slice wa W.length wc, .slice fa F.length fc, .slice ca n cc] 28)) (below_alloc _ (.cells #[.slice wa2 W.length wc2, .slice fa2 F.length fc2, .slice ca2 n cc2] 28)))
  have X0 := hide ((Bx3.new w (.slice wa W.length wc) (.slice fa F.length fc) (.slice ca n cc) 28).below (below_alloc _ (.cells #[.slice wa2 W.length wc2, .slice fa2 F.length fc2, .slice ca2 n cc2] 28)))
  have Y0 := hide (Bx3.new (w.alloc (.cells #[.slice wa W.length wc, .slice fa F.length fc, .slice ca n cc] 28)) (.slice wa2 W.length wc2) (.slice fa2 F.length fc2) (.slice ca2 n cc2) 28)
  have hs : (w.alloc (.cells #[.slice wa W.length wc, .slice fa F.length fc, .slice ca n cc] 28)).heap.size = w.heap.size + 1 := by simp
  rw [hs] at Y0
  clear hs
  go_enter Tryz.func27, Tryz.ntmps27
  go_wp2_with fail
  generalize (w.alloc (.cells #[.slice wa W.length wc, .slice fa F.length fc, .slice ca n cc] 28)).alloc (.cells #[.slice wa2 W.length wc2, .slice fa2 F.length fc2, .slice ca2 n cc2] 28) = W0 at *
  refine (eqWantS_same wa wa2 wc wc2 W W0 (HA.out.wants.below B0.out) (HB.out.wants.below B0.out) hW).mono ?_
  rintro e w1 ⟨rfl, hb1⟩
  have B1 := hide (below_next B0.out hb1)
  obtain ⟨⟨x0, x1, x2⟩, -, -, -⟩ := X0.out.below hb1
  obtain ⟨⟨y0, y1, y2⟩, -, -, -⟩ := Y0.out.below hb1
  have BX1 := hide hb1
  clear hb1
  go_wp2_with fail
  clear x0 x1 x2 y0 y1 y2
  refine (eqInt64S_b fa fa2 fc fc2 F w1 (HA.out.failed.below B1.out) (HB.out.failed.below B1.out) hF).mono ?_
  rintro e w2 ⟨rfl, hb2⟩
  have B2 := hide (below_next B1.out hb2)
  obtain ⟨⟨x0, x1, x2⟩, -, -, -⟩ := X0.out.below (below_next BX1.out hb2)
  obtain ⟨⟨y0, y1, y2⟩, -, -, -⟩ := Y0.out.below (below_next BX1.out hb2)
  clear hb2
  go_wp2_with fail
  clear x0 x1 x2 y0 y1 y2
  refine (eqChunkS_same ca ca2 cc cc2 n D P w2 (HA.out.chunks.below B2.out) (HB.out.chunks.below B2.out) hn HP.out).mono ?_
  rintro e w3 ⟨rfl, hb3⟩
  have B3 := hide (below_next B2.out hb3)
  clear hb3
  go_wp2_with fail
  go_ret
  exact ⟨rfl, B3.out⟩
theorem trod_three {H : Type} {enc : TypeId × Value → H} {P : Program} {w : World} {base : Nat} {spare : Nat → Bool} {held : Bool} {t : TypeId} {f0 f1 f2 : Field} {fuel : Nat} {cs : List Value} {x : DataW H × List MemPlace}
    (he : P.underlying t = some (.struct #[f0, f1, f2])) (ce : P.cellsOf t = 3) (o0 : f0.offset = 0) (o1 : f1.offset = 1) (o2 : f2.offset = 2)
    (c0 : P.cellsOf f0.type = 1) (c1 : P.cellsOf f1.type = 1) (c2 : P.cellsOf f2.type = 1) (h : DataW.trod enc P w base spare held fuel t cs = some x) :
    ∃ (v0 v1 v2 : Value) (n : Nat) (y0 y1 y2 : DataW H × List MemPlace), cs = [v0, v1, v2] ∧ DataW.trod enc P w base spare held n f0.type [v0] = some y0 ∧ DataW.trod enc P w base spare held n f1.type [v1] = some y1 ∧ DataW.trod enc P w base spare held n f2.type [v2] = some y2 := by
  obtain ⟨xs, k, hk, hxy, hlen, hxl, hf⟩ := DataW.trod_struct he h
  rw [ce] at hlen
  match xs, hxl, cs, hlen with
  | [y0, y1, y2], _, [v0, v1, v2], _ =>
    have g0 := hf 0 f0 rfl
    have g1 := hf 1 f1 rfl
    have g2 := hf 2 f2 rfl
    simp [o0, o1, o2, c0, c1, c2] at g0 g1 g2
    exact ⟨v0, v1, v2, k, y0, y1, y2, rfl, g0, g1, g2⟩
theorem rdW_of_trod {H : Type} {enc : TypeId × Value → H} {W : World} {a : Option Addr} {n c fuel : Nat} {x : DataW H × List MemPlace}
    (h : DataW.trod enc Tryz.prog W 0 (fun _ => true) true fuel 48 [.slice a n c] = some x) : ∃ Ws : List Wn, Ws.length = n ∧ RdW W a Ws ∧ n ≤ maxLen := by
  rcases Deep.open_slice_pairs Tryz.underlying48 Tryz.underlying146 (by kernel_rfl) rfl rfl (by kernel_rfl) (by kernel_rfl) h with ⟨hcs, _⟩ | ⟨x, l, cp, m, fu, V0, V1, D0, D1, P0, P1, hcs, _, hl, hm, hmm, _, hx⟩
  · simp at hcs
    obtain ⟨rfl, rfl, rfl⟩ := hcs
    exact ⟨[], rfl, fun h => absurd rfl h, Nat.zero_le _⟩
  · simp at hcs
    obtain ⟨rfl, rfl, rfl⟩ := hcs
    simp only [if_true] at hmm
    subst hmm
    have each : ∀ i, i < n → ∃ q : Wn, V0 i = .int .i64 q.1 ∧ V1 i = .int .i64 q.2 := by
      intro i hi
      obtain ⟨c0, c1, t0, t1⟩ := hx i (by omega)
      obtain ⟨z, hz, _, hw⟩ := DataW.trod_int Tryz.underlying2 t0
      obtain ⟨z2, hz2, _, hw2⟩ := DataW.trod_int Tryz.underlying2 t1
      simp at hz hz2
      exact ⟨(z, z2), hz, hz2⟩
    obtain ⟨q, hq⟩ := Deep.choose_lt each
    have hg : ∀ i, i < n → ((List.range n).map q).getD i (0, 0) = q i := fun i hi => by simp [List.getD_eq_getElem?_getD, hi]
    refine ⟨(List.range n).map q, by simp, ?_, by omega⟩
    intro hne
    have hn : 0 < n := by
      rcases Nat.eq_zero_or_pos n with h | h
      · subst h; exact absurd rfl hne
      · exact h
    obtain ⟨b, off, spot⟩ := x
    have hc0 := (hx 0 (by omega)).1
    have hspot : spot = none := by simpa [Addr.add] using World.cell?_spot hc0
    subst hspot
    refine ⟨b, off, rfl, World.block_lt_of_cell? W _ (by simpa [Addr.add] using hc0), fun i hi => ?_⟩
    have hi : i < n := by simpa using hi
    obtain ⟨c0, c1, _, _⟩ := hx i (by omega)
    obtain ⟨e0, e1⟩ := hq i hi
    have ea : ∀ t, (⟨b, off, none⟩ : Addr).add t = ⟨b, off + t, none⟩ := fun t => by unfold Addr.add; split <;> simp_all
    rw [ea, e0] at c0
    rw [ea, e1] at c1
    rw [hg i hi]
    exact ⟨c0, by rw [Nat.add_assoc]; exact c1⟩
theorem fetch_of_trod {H : Type} {enc : TypeId × Value → H} {W : World} {fuel : Nat} {cs : List Value} {x : DataW H × List MemPlace}
    (h : DataW.trod enc Tryz.prog W 0 (fun _ => true) true fuel 51 cs = some x) :
    ∃ (wa : Option Addr) (wc : Nat) (Ws : List Wn) (fa : Option Addr) (fc : Nat) (F : List Int) (ca : Option Addr) (cc n : Nat) (D : Nat → Int) (P : Nat → List Int), cs = [.slice wa Ws.length wc, .slice fa F.length fc, .slice ca n cc] ∧ RdF W wa Ws fa F ca D P n ∧ (Ws.length ≤ maxLen ∧ F.length ≤ maxLen ∧ n ≤ maxLen) ∧ ∀ i, i < n → (Lit.int .i64 (D i)).wf = true ∧ U8 (P i) ∧ (P i).length ≤ maxLen := by
  obtain ⟨v0, v1, v2, m, y0, y1, y2, rfl, g0, g1, g2⟩ := trod_three Tryz.underlying51 (by kernel_rfl) rfl rfl rfl (by kernel_rfl) (by kernel_rfl) (by kernel_rfl) h
  obtain ⟨a0, n0, k0, e0⟩ : ∃ a n k, v0 = .slice a n k := by
    rcases Deep.open_slice_pairs Tryz.underlying48 Tryz.underlying146 (by kernel_rfl) rfl rfl (by kernel_rfl) (by kernel_rfl) g0 with ⟨hcs, _⟩ | ⟨x, l, cp, m, fu, V0, V1, D0, D1, P0, P1, hcs, _⟩
    · simp at hcs; exact ⟨_, _, _, hcs⟩
    · simp at hcs; exact ⟨_, _, _, hcs⟩
  obtain ⟨a1, n1, k1, e1⟩ : ∃ a n k, v1 = .slice a n k := by
    rcases open_ints Tryz.underlying25 Tryz.underlying2 (by kernel_rfl) g1 with ⟨hcs, _⟩ | ⟨x, l, c, zs, hcs, _⟩
    · simp at hcs; exact ⟨_, _, _, hcs⟩
    · simp at hcs; exact ⟨_, _, _, hcs⟩
  obtain ⟨a2, n2, k2, e2⟩ : ∃ a n k, v2 = .slice a n k := by
    rcases Deep.open_slice_pairs Tryz.underlying49 Tryz.underlying143 (by kernel_rfl) rfl rfl (by kernel_rfl) (by kernel_rfl) g2 with ⟨hcs, _⟩ | ⟨x, l, cp, m, fu, V0, V1, D0, D1, P0, P1, hcs, _⟩
    · simp at hcs; exact ⟨_, _, _, hcs⟩
    · simp at hcs; exact ⟨_, _, _, hcs⟩
  subst e0 e1 e2
  obtain ⟨Ws, rfl, hw, hm0⟩ := rdW_of_trod g0
  obtain ⟨F, rfl, hf, -, hm1⟩ := ints_of_trod g1
  obtain ⟨D, P, hc, hm2, hin⟩ := rdC_of_trod g2
  exact ⟨a0, k0, Ws, a1, k1, F, a2, k2, n2, D, P, rfl, ⟨hw, hf, hc⟩, ⟨hm0, hm1, hm2⟩, hin⟩
end Go.Proofs.YtfamiehfpmjljaaGreatDoor

