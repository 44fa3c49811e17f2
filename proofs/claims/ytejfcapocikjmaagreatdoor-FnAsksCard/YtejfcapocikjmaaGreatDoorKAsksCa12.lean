/-
  Texts put together: FetS FetT FetU.
-/
import Derived.Test.YtejfcapocikjmaaGreatDoorKAsksCa3
import Derived.Test.YtejfcapocikjmaaGreatDoorKAsksCa2
import Derived.Deep.CutRange
import Derived.Test.YtejfcapocikjmaaGreatDoorKAsksCa5
import Derived.Deep.RegionHeld3
namespace Go.Proofs.YtejfcapocikjmaaGreatDoor
open Go.RowKit Go.Maps
set_option linter.unusedVariables false

theorem inS_any (n a b : Int) (w : World) : Calls Tryz.prog 75 #[.int .i64 n, .int .i64 a, .int .i64 b] w fun e w' => e = .returned (.bool (decide (a ≤ n ∧ n ≤ b))) ∧ w' = w := by
  by_cases h0 : a ≤ n
  · by_cases h1 : n ≤ b
    · rw [decide_eq_true ⟨h0, h1⟩]
      go_enter Tryz.func75, Tryz.ntmps75
      go_wp2
      go_ret
      exact ⟨ret_bool (by simp <;> omega), rfl⟩
    · rw [decide_eq_false (fun h => h1 h.2)]
      go_enter Tryz.func75, Tryz.ntmps75
      go_wp2
      go_ret
      exact ⟨ret_bool (by simp <;> omega), rfl⟩
  · rw [decide_eq_false (fun h => h0 h.1)]
    go_enter Tryz.func75, Tryz.ntmps75
    go_wp2
    go_ret
    exact ⟨ret_bool (by simp <;> omega), rfl⟩
theorem dgS_any (n : Int) (w : World) : Calls Tryz.prog 46 #[.int .i64 n] w fun e w' => e = .returned (.bool (decide (okD n))) ∧ w' = w := by
  have h := inS_any n 0 4294967295 w
  go_enter Tryz.func46, Tryz.ntmps46
  go_wp2_with fail
  refine h.mono ?_
  rintro e w ⟨rfl, rfl⟩
  go_wp2
  go_ret
  exact ⟨ret_bool (by by_cases h0 : 0 ≤ n <;> by_cases h1 : n ≤ 4294967295 <;> simp [okD, h0, h1]), rfl⟩
set_option maxRecDepth 100000 in
set_option maxHeartbeats 800000 in
theorem l10At_yes (fb : Nat) (a : Option Addr) (c i : Nat) (W : List Wn) (d : Int) (w : World) (h0 : w.cell? ⟨fb, 0, none⟩ = some (.slice a W.length c)) (h : RdW w a W) (hl : W.length ≤ 1048576) (hi : i < W.length) (hd : (W.getD i (0, 0)).1 = d) (hf : ∀ j, j < i → (W.getD j (0, 0)).1 ≠ d) :
    Calls Tryz.prog 51 #[.pointer (some ⟨fb, 0, none⟩), .int .i64 d] w fun e w' => e = .returned (.int .i64 i) ∧ w' = w := by
  obtain ⟨b1, o1, rfl, hb1, hc1⟩ := h (by intro e; simp [e] at hi)
  have HC := hide hc1
  have HF := hide hf
  have HD := hide hd
  clear h hc1 hf hd
  go_enter Tryz.func51, Tryz.ntmps51
  go_wp2
  go_loop [5] (fun q => ∃ k : Nat, k ≤ i ∧ q = .int .i64 k) (fun q => W.length - (intOf q).toNat)
  case atStart => exact ⟨0, Nat.zero_le _, rfl⟩
  case round =>
    obtain ⟨k, hk, rfl⟩ := hrel
    have hlt : k < W.length := by omega
    obtain ⟨c1, -⟩ := HC.out k hlt
    by_cases e : k = i
    · subst e
      rw [HD.out] at c1
      go_wp2
      go_ret
      exact ⟨rfl, rfl⟩
    · have hne : ((W.getD k (0, 0)).1 == d) = false := by simpa using HF.out k (by omega)
      generalize (W.getD k (0, 0)).1 = dd at c1 hne
      go_wp2
      go_round
      case rel => exact ⟨k + 1, by omega, by go_num⟩
      case measure => simp [intOf]; omega
set_option maxRecDepth 100000 in
set_option maxHeartbeats 800000 in
theorem l10At_no (fb : Nat) (a : Option Addr) (c : Nat) (W : List Wn) (d : Int) (w : World) (h0 : w.cell? ⟨fb, 0, none⟩ = some (.slice a W.length c)) (h : RdW w a W) (hl : W.length ≤ 1048576) (hf : ∀ j, j < W.length → (W.getD j (0, 0)).1 ≠ d) :
    Calls Tryz.prog 51 #[.pointer (some ⟨fb, 0, none⟩), .int .i64 d] w fun e w' => e = .returned (.int .i64 (-1)) ∧ w' = w := by
  have HC := hide h
  have HF := hide hf
  clear h hf
  go_enter Tryz.func51, Tryz.ntmps51
  go_wp2
  go_loop [5] (fun q => ∃ k : Nat, k ≤ W.length ∧ q = .int .i64 k) (fun q => W.length - (intOf q).toNat)
  case atStart => exact ⟨0, Nat.zero_le _, rfl⟩
  case round =>
    obtain ⟨k, hk, rfl⟩ := hrel
    by_cases hlt : k < W.length
    · obtain ⟨b1, o1, rfl, hb1, hc1⟩ := HC.out (by intro e; simp [e] at hlt)
      obtain ⟨c1, -⟩ := hc1 k hlt
      clear hc1
      have hne : ((W.getD k (0, 0)).1 == d) = false := by simpa using HF.out k hlt
      generalize (W.getD k (0, 0)).1 = dd at c1 hne
      go_wp2
      go_round
      case rel => exact ⟨k + 1, by omega, by go_num⟩
      case measure => simp [intOf]; omega
    · go_wp2
      go_ret
      exact ⟨rfl, rfl⟩
theorem first_take {W : List Wn} {k : Nat} {d : Int} (hk : k < W.length) (hd : (W.getD k (0, 0)).1 = d) : (∃ i, i < k ∧ (W.getD i (0, 0)).1 = d ∧ ∀ j, j < i → (W.getD j (0, 0)).1 ≠ d) ∧ d ∈ (W.take k).map Prod.fst ∨ (∀ j, j < k → (W.getD j (0, 0)).1 ≠ d) ∧ d ∉ (W.take k).map Prod.fst := by
  have hg : ∀ i, i < k → (W.take k).getD i (0, 0) = W.getD i (0, 0) := fun i hi => by simp [List.getD_eq_getElem?_getD, hi]
  have hl : (W.take k).length = k := by simp; omega
  by_cases h : d ∈ (W.take k).map Prod.fst
  · obtain ⟨i, hi, e⟩ := mem_keys.1 h
    rw [hl] at hi
    rw [hg i hi] at e
    obtain ⟨j, hj, e1, e2⟩ := first_at (D := fun i => (W.getD i (0, 0)).1) ⟨i, hi, e⟩
    exact Or.inl ⟨⟨j, hj, e1, e2⟩, h⟩
  · refine Or.inr ⟨fun j hj e => h (mem_keys.2 ⟨j, by rw [hl]; exact hj, by rw [hg j hj]; exact e⟩), h⟩
abbrev Lat (w : World) := InW (fun x => Below w.heap.size w x)
theorem lat_some (w : World) : Nonempty (Lat w) := ⟨⟨w, Below.refl _ _⟩⟩
theorem lat_same {f : FuncId} {args : Array Value} {w : World} {v : Value} (h : ∀ u : Lat w, Calls Tryz.prog f args u.val fun e w' => e = .returned v ∧ w' = u.val) : ∀ u : Lat w, Calls Tryz.prog f args u.val fun e w' => e = .returned v ∧ ∃ x : Lat w, w' = x.val := fun u => (h u).mono (fun e w' ⟨he, hw⟩ => ⟨he, u, hw⟩)
set_option maxRecDepth 100000 in
set_option maxHeartbeats 3200000 in
theorem l10Wants_any (fb : Nat) (wa : Option Addr) (wc : Nat) (W : List Wn) (fa : Option Addr) (fc : Nat) (F : List Int) (ca : Option Addr) (cc n : Nat) (D : Nat → Int) (P : Nat → List Int) (w : World) (hX : Bx3 w fb (.slice wa W.length wc) (.slice fa F.length fc) (.slice ca n cc)) (h : RdF w wa W fa F ca D P n) (hn : n ≤ 1048576) (hWl : W.length ≤ 1048576) (hFl : F.length ≤ 1048576) :
    Calls Tryz.prog 45 #[.pointer (some ⟨fb, 0, none⟩)] w fun e w' => e = .returned (.int .i64 (firstBad (wFault W F (keysC D n)) 0 W.length)) ∧ Below w.heap.size w w' := by
  have HX := hide hX
  have HW := hide h.wants
  have HF := hide h.failed
  have HC := hide h.chunks
  clear hX h
  go_enter Tryz.func45, Tryz.ntmps45
  go_wp2_with fail
  go_loopw [3, 4] (fun i _ wr => ∃ k : Nat, k ≤ W.length ∧ i = .int .i64 k ∧ Hid (Below w.heap.size w wr) ∧ Hid (firstBad (wFault W F (keysC D n)) 0 W.length = firstBad (wFault W F (keysC D n)) k (W.length - k))) (fun i _ _ => W.length - (intOf i).toNat)
  case atStart => exact ⟨0, Nat.zero_le _, rfl, hide (Below.refl _ _), hide rfl⟩
  case round =>
    obtain ⟨k, hk, rfl, BW, FB⟩ := hrel
    obtain ⟨⟨x0, x1, x2⟩, -, -, -⟩ := HX.out.below BW.out
    by_cases hlt : k < W.length
    · obtain ⟨b1, o1, rfl, hb1, hc1⟩ := HW.out (by intro e; simp [e] at hlt)
      obtain ⟨c1, c2⟩ := hc1 k hlt
      have c1 := (BW.out.cell (p := ⟨b1, o1 + k * 2, none⟩) hb1).trans c1
      have c2 := (BW.out.cell (p := ⟨b1, o1 + k * 2 + 1, none⟩) hb1).trans c2
      generalize hd : (W.getD k (0, 0)).1 = d at c1
      generalize ht : (W.getD k (0, 0)).2 = t at c2
      have HD := hide hd
      have HT := hide ht
      have hFT := first_take hlt hd
      clear hd ht hc1
      have A1 := hide (below_alloc wr (.cells #[.int .i64 d, .int .i64 t] 78))
      have hklt : (k : Int) < (W.length : Int) := by omega
      by_cases hok : okD d ∧ 0 ≤ t ∧ t < 3
      · obtain ⟨hd, ht0, ht3⟩ := hok
        have HOK := hide (And.intro hd (And.intro ht0 ht3))
        have hdk : decide (okD d) = true := decide_eq_true hd
        have hin : decide ((0 : Int) ≤ t ∧ t ≤ 2) = true := decide_eq_true (by omega)
        clear hd ht0 ht3
        go_wp2_with fail
        refine (dgS_any d _).mono ?_
        rintro e w' ⟨rfl, rfl⟩
        rw [hdk]
        go_wp2_with fail
        refine (inS_any t 0 2 _).mono ?_
        rintro e w' ⟨rfl, rfl⟩
        rw [hin]
        clear x0 x1 x2 c1 c2 hdk hin
        have P1 := hide (Two.new wr (.int .i64 d) (.int .i64 t) 78)
        have B1 := hide (below_next BW.out A1.out)
        go_upto_region 7 with fail
        generalize wr.alloc (.cells #[.int .i64 d, .int .i64 t] 78) = W1 at *
        generalize wr.heap.size = p at *
        clear A1 BW
        have f1 : ∀ u : Lat W1, u.val.cell? ⟨p, 0, none⟩ = some (.int .i64 d) := fun u => (P1.out.below u.ok).1
        have f2 : ∀ u : Lat W1, u.val.cell? ⟨fb, 1, none⟩ = some (.slice fa F.length fc) := fun u => ((HX.out.below B1.out).below u.ok).1.2.1
        have f3 : ∀ u : Lat W1, u.val.cell? ⟨fb, 2, none⟩ = some (.slice ca n cc) := fun u => ((HX.out.below B1.out).below u.ok).1.2.2
        have hne := lat_some W1
        rcases hFT with ⟨⟨i, hi, hi1, hi2⟩, hmem⟩ | ⟨hfst, hmem⟩
        · have HFF := hide (wFault_taken (F := F) (C := keysC D n) HD.out HT.out HOK.out (Or.inr (Or.inr hmem)))
          have C1 := hide (lat_same fun u : Lat W1 => l10At_yes fb (some ⟨b1, o1, none⟩) wc i W d u.val ((HX.out.below B1.out).below u.ok).1.1 ((HW.out.below B1.out).below u.ok) hWl (by omega) hi1 hi2)
          have hik : ((i : Int) != (k : Int)) = true := by simp; omega
          clear hmem hi1 hi2
          refine wp_region_inv (Inv := fun x => Below W1.heap.size W1 x) (by kernel_rfl) (by kernel_rfl) (Below.refl _ _).drew ?_
          repeat (first | go_big_quiet_step (first | (go_at_call 51; exact C1.out _)) | quiet_step (fail))
          refine wpQuiet_nil ?_
          intro _ hw'
          obtain ⟨u, hw''⟩ := hw'
          subst hw''
          have B7 := hide (below_next B1.out u.ok)
          go_wp2_with fail
          go_ret
          exact ⟨ret_int (by rw [FB.out, firstBad_hit hlt HFF.out]), B7.out⟩
        · have C1 := hide (lat_same fun u : Lat W1 => l10At_yes fb (some ⟨b1, o1, none⟩) wc k W d u.val ((HX.out.below B1.out).below u.ok).1.1 ((HW.out.below B1.out).below u.ok) hWl hlt HD.out hfst)
          have C2 := hide (lat_same fun u : Lat W1 => l2Among_any fa fc F d u.val ((HF.out.below B1.out).below u.ok) hFl)
          have hik : ((k : Int) != (k : Int)) = false := by simp
          by_cases hf : d ∈ F
          · have HFF := hide (wFault_taken (F := F) (C := keysC D n) HD.out HT.out HOK.out (Or.inr (Or.inl hf)))
            rw [show F.contains d = true by simpa using hf] at C2
            clear hmem hf hfst
            refine wp_region_inv (Inv := fun x => Below W1.heap.size W1 x) (by kernel_rfl) (by kernel_rfl) (Below.refl _ _).drew ?_
            repeat (first | go_big_quiet_step (first | (go_at_call 51; exact C1.out _) | (go_at_call 23; exact C2.out _)) | quiet_step (fail))
            refine wpQuiet_nil ?_
            intro _ hw'
            obtain ⟨u, hw''⟩ := hw'
            subst hw''
            have B7 := hide (below_next B1.out u.ok)
            go_wp2_with fail
            go_ret
            exact ⟨ret_int (by rw [FB.out, firstBad_hit hlt HFF.out]), B7.out⟩
          · rw [show F.contains d = false by simpa using hf] at C2
            by_cases hc : d ∈ keysC D n
            · have HFF := hide (wFault_taken (F := F) (C := keysC D n) HD.out HT.out HOK.out (Or.inl hc))
              obtain ⟨i, hi, hi1, hi2⟩ := first_at (mem_keysC.1 hc)
              have C3 := hide (lat_same fun u : Lat W1 => l2At_yes ca cc n i d D P u.val ((HC.out.below B1.out).below u.ok) hn hi hi1 hi2)
              have hi0 : (0 : Int) ≤ (i : Int) := by omega
              clear hmem hf hfst hi1 hi2 hc
              refine wp_region_inv (Inv := fun x => Below W1.heap.size W1 x) (by kernel_rfl) (by kernel_rfl) (Below.refl _ _).drew ?_
              repeat (first | go_big_quiet_step (first | (go_at_call 51; exact C1.out _) | (go_at_call 23; exact C2.out _) | (go_at_call 47; exact C3.out _)) | quiet_step (fail))
              refine wpQuiet_nil ?_
              intro _ hw'
              obtain ⟨u, hw''⟩ := hw'
              subst hw''
              have B7 := hide (below_next B1.out u.ok)
              go_wp2_with fail
              go_ret
              exact ⟨ret_int (by rw [FB.out, firstBad_hit hlt HFF.out]), B7.out⟩
            · have HFF := hide (wFault_none (F := F) (C := keysC D n) HD.out HT.out HOK.out (fun h => h.elim hc (fun h => h.elim hf hmem)))
              have C3 := hide (lat_same fun u : Lat W1 => l2At_no ca cc n d D P u.val ((HC.out.below B1.out).below u.ok) hn (fun j hj e => hc (mem_keysC.2 ⟨j, hj, e⟩)))
              clear hmem hf hfst hc
              refine wp_region_inv (Inv := fun x => Below W1.heap.size W1 x) (by kernel_rfl) (by kernel_rfl) (Below.refl _ _).drew ?_
              repeat (first | go_big_quiet_step (first | (go_at_call 51; exact C1.out _) | (go_at_call 23; exact C2.out _) | (go_at_call 47; exact C3.out _)) | quiet_step (fail))
              refine wpQuiet_nil ?_
              intro _ hw'
              obtain ⟨u, hw''⟩ := hw'
              subst hw''
              have B7 := hide (below_next B1.out u.ok)
              go_wp2_with fail
              go_roundw
              case rel => exact ⟨k + 1, by omega, by go_num, B7, hide (by rw [FB.out, firstBad_miss hlt HFF.out])⟩
              case measure => simp [intOf]; omega
      · have HFF := hide (wFault_range (F := F) (C := keysC D n) HD.out HT.out hok)
        by_cases hd : okD d
        · have hdk : decide (okD d) = true := decide_eq_true hd
          have hin : decide ((0 : Int) ≤ t ∧ t ≤ 2) = false := decide_eq_false (fun h => hok ⟨hd, by omega, by omega⟩)
          go_wp2_with fail
          refine (dgS_any d _).mono ?_
          rintro e w' ⟨rfl, rfl⟩
          rw [hdk]
          go_wp2_with fail
          refine (inS_any t 0 2 _).mono ?_
          rintro e w' ⟨rfl, rfl⟩
          rw [hin]
          go_wp2_with fail
          go_ret
          exact ⟨ret_int (by rw [FB.out, firstBad_hit hlt HFF.out]), below_next BW.out A1.out⟩
        · have hdk : decide (okD d) = false := decide_eq_false hd
          go_wp2_with fail
          refine (dgS_any d _).mono ?_
          rintro e w' ⟨rfl, rfl⟩
          rw [hdk]
          go_wp2_with fail
          go_ret
          exact ⟨ret_int (by rw [FB.out, firstBad_hit hlt HFF.out]), below_next BW.out A1.out⟩
    · have hkl : k = W.length := by omega
      subst hkl
      go_wp2_with fail
      go_ret
      exact ⟨ret_int (by rw [FB.out, firstBad_end (Nat.le_refl _)]), BW.out⟩
theorem Reads.take {k : IntKind} {w : World} {a : Option Addr} {zs : List Int} (h : Reads k w a zs) (m : Nat) : Reads k w a (zs.take m) := by
  intro hz
  have hp : zs ≠ [] := by rintro rfl; simp at hz
  obtain ⟨b, off, rfl, hb, hc⟩ := h hp
  refine ⟨b, off, rfl, hb, fun i hi => ?_⟩
  have hi' : i < m ∧ i < zs.length := by simpa [Nat.lt_min] using hi
  rw [hc i hi'.2]
  simp [List.getD_eq_getElem?_getD, hi'.1]
set_option maxRecDepth 100000 in
set_option maxHeartbeats 3200000 in
theorem l10Fault_any (fb : Nat) (wa : Option Addr) (wc : Nat) (W : List Wn) (fa : Option Addr) (fc : Nat) (F : List Int) (ca : Option Addr) (cc n : Nat) (D : Nat → Int) (P : Nat → List Int) (w : World) (hX : Bx3 w fb (.slice wa W.length wc) (.slice fa F.length fc) (.slice ca n cc)) (h : RdF w wa W fa F ca D P n) (hn : n ≤ 1048576) (hP : SmallP P n) (hWl : W.length ≤ 1048576) (hFl : F.length ≤ 1048576) (hfc : F.length ≤ fc) :
    Calls Tryz.prog 18 #[.pointer (some ⟨fb, 0, none⟩)] w fun e w' => e = .returned (.int .i64 (fetFault W F D P n)) ∧ Below w.heap.size w w' := by
  have HX := hide hX
  have HR := hide h
  have HP := hide hP
  clear hX h hP
  go_enter Tryz.func18, Tryz.ntmps18
  obtain ⟨⟨t0, t1, t2⟩, -, -, -⟩ := HX.out
  go_wp2_with fail
  clear t0 t1 t2
  refine (specFault_any ca cc n D P w HR.out.chunks hn HP.out).mono ?_
  rintro r w1 ⟨rfl, hb1⟩
  have B1 := hide hb1
  have X1 := hide (HX.out.below hb1)
  clear hb1
  by_cases hf : fault D P n = 0
  · have HE := hide (show fetFault W F D P n = listsFault W F (keysC D n) by rw [fetFault, hf]; simp)
    rw [hf]
    clear hf
    obtain ⟨⟨t0, t1, t2⟩, -, -, -⟩ := X1.out
    by_cases hw : 12 < W.length
    · have hw1 : (12 : Int) < (W.length : Int) := by omega
      have HL := hide (show listsFault W F (keysC D n) = 2 by rw [listsFault, if_pos (Or.inl hw)])
      go_wp2_with fail
      go_ret
      exact ⟨ret_int (by rw [HE.out, HL.out]), B1.out⟩
    · have hw1 : ¬ (12 : Int) < (W.length : Int) := by omega
      by_cases hff : 40 < F.length
      · have hf1 : (40 : Int) < (F.length : Int) := by omega
        have HL := hide (show listsFault W F (keysC D n) = 2 by rw [listsFault, if_pos (Or.inr hff)])
        go_wp2_with fail
        go_ret
        exact ⟨ret_int (by rw [HE.out, HL.out]), B1.out⟩
      · have hf1 : ¬ (40 : Int) < (F.length : Int) := by omega
        have HL := hide (show listsFault W F (keysC D n) = if firstBad (wFault W F (keysC D n)) 0 W.length ≠ 0 then firstBad (wFault W F (keysC D n)) 0 W.length else firstBad (fFault F (keysC D n)) 0 F.length by rw [listsFault, if_neg (by omega)])
        have HLL := hide (HE.out.trans HL.out)
        have HWF := hide (l10Wants_any fb wa wc W fa fc F ca cc n D P w1 X1.out (HR.out.below B1.out) hn hWl hFl)
        clear HL HE
        generalize firstBad (wFault W F (keysC D n)) 0 W.length = A at *
        go_wp2_with fail
        refine HWF.out.mono ?_
        rintro r w2 ⟨rfl, hb2⟩
        have X2 := hide (X1.out.below hb2)
        have B2 := hide (below_next B1.out hb2)
        clear hb2 HWF X1 B1 t0 t1 t2
        by_cases hA : A = 0
        · subst hA
          have HLF := hide (show fetFault W F D P n = firstBad (fFault F (keysC D n)) 0 F.length by rw [HLL.out]; simp)
          clear HLL
          go_wp2_with fail
          go_loopw [5] (fun i wr => ∃ k : Nat, k ≤ F.length ∧ i = .int .i64 k ∧ Hid (Below w2.heap.size w2 wr) ∧ Hid (firstBad (fFault F (keysC D n)) 0 F.length = firstBad (fFault F (keysC D n)) k (F.length - k))) (fun i _ => F.length - (intOf i).toNat)
          case atStart => exact ⟨0, Nat.zero_le _, rfl, hide (Below.refl _ _), hide rfl⟩
          case round =>
            obtain ⟨k, hk, rfl, BW, FB⟩ := hrel
            obtain ⟨⟨x0, x1, x2⟩, -, -, -⟩ := X2.out.below BW.out
            have BWW := hide (below_next B2.out BW.out)
            by_cases hlt : k < F.length
            · obtain ⟨b1, o1, hfa, hb1, hc1⟩ := HR.out.failed (by intro e; simp [e] at hlt)
              subst hfa
              have hcc := hc1 k hlt
              have c1 := (BWW.out.cell (p := ⟨b1, o1 + k, none⟩) hb1).trans hcc
              generalize hd : F.getD k 0 = d at hcc c1
              have HD := hide hd
              have hklt : (k : Int) < (F.length : Int) := by omega
              have hk0 : (0 : Int) ≤ (k : Int) := by omega
              clear hd hc1
              by_cases hd : okD d
              · have HOK := hide hd
                have hdk : decide (okD d) = true := decide_eq_true hd
                clear hd
                go_wp2_with fail
                refine (dgS_any d _).mono ?_
                rintro e wr ⟨rfl, rfl⟩
                rw [hdk]
                clear hdk
                go_upto_region 14 with fail
                clear x0 x1 x2 c1
                have f1 : ∀ u : Lat wr, u.val.cell? ⟨fb, 1, none⟩ = some (.slice (some ⟨b1, o1, none⟩) F.length fc) := fun u => ((X2.out.below BW.out).below u.ok).1.2.1
                have f2 : ∀ u : Lat wr, u.val.cell? ⟨fb, 2, none⟩ = some (.slice ca n cc) := fun u => ((X2.out.below BW.out).below u.ok).1.2.2
                have f3 : ∀ u : Lat wr, u.val.cell? ⟨b1, o1 + k, none⟩ = some (.int .i64 d) := fun u => ((below_next BWW.out u.ok).cell (p := ⟨b1, o1 + k, none⟩) hb1).trans hcc
                have hne := lat_some wr
                have hlk : (F.take k).length = k := by simp; omega
                have hkc : (k : Int) ≤ (fc : Int) := by omega
                have C2 : Hid (∀ u : Lat wr, Calls Tryz.prog 23 #[.slice (some ⟨b1, o1, none⟩) k fc, .int .i64 d] u.val fun e w' => e = .returned (.bool ((F.take k).contains d)) ∧ ∃ x : Lat wr, w' = x.val) := hide (lat_same fun u : Lat wr => by
                  have h1 := l2Among_any (some ⟨b1, o1, none⟩) fc (F.take k) d u.val (((HR.out.failed.below BWW.out).below u.ok).take k) (by omega)
                  rw [hlk] at h1
                  exact h1)
                clear hcc hlk
                by_cases hf : d ∈ F.take k
                · have HFF := hide (fFault_taken (C := keysC D n) HD.out HOK.out (Or.inr hf))
                  rw [show (F.take k).contains d = true by simpa using hf] at C2
                  clear hf
                  refine wp_region_inv (Inv := fun x => Below wr.heap.size wr x) (by kernel_rfl) (by kernel_rfl) (Below.refl _ _).drew ?_
                  repeat (first | go_big_quiet_step (first | (go_at_call 23; exact C2.out _)) | quiet_step (fail))
                  refine wpQuiet_nil ?_
                  intro _ hw'
                  obtain ⟨u, hw''⟩ := hw'
                  subst hw''
                  have B7 := hide (below_next BWW.out u.ok)
                  go_wp2_with fail
                  go_ret
                  exact ⟨ret_int (by rw [HLF.out, FB.out, firstBad_hit hlt HFF.out]), B7.out⟩
                · rw [show (F.take k).contains d = false by simpa using hf] at C2
                  by_cases hc : d ∈ keysC D n
                  · have HFF := hide (fFault_taken (F := F) HD.out HOK.out (Or.inl hc))
                    obtain ⟨i, hi, hi1, hi2⟩ := first_at (mem_keysC.1 hc)
                    have C3 := hide (lat_same fun u : Lat wr => l2At_yes ca cc n i d D P u.val ((HR.out.chunks.below BWW.out).below u.ok) hn hi hi1 hi2)
                    have hi0 : (0 : Int) ≤ (i : Int) := by omega
                    clear hf hi1 hi2 hc
                    refine wp_region_inv (Inv := fun x => Below wr.heap.size wr x) (by kernel_rfl) (by kernel_rfl) (Below.refl _ _).drew ?_
                    repeat (first | go_big_quiet_step (first | (go_at_call 23; exact C2.out _) | (go_at_call 47; exact C3.out _)) | quiet_step (fail))
                    refine wpQuiet_nil ?_
                    intro _ hw'
                    obtain ⟨u, hw''⟩ := hw'
                    subst hw''
                    have B7 := hide (below_next BWW.out u.ok)
                    go_wp2_with fail
                    go_ret
                    exact ⟨ret_int (by rw [HLF.out, FB.out, firstBad_hit hlt HFF.out]), B7.out⟩
                  · have HFF := hide (fFault_none (C := keysC D n) HD.out HOK.out (fun h => h.elim hc hf))
                    have C3 := hide (lat_same fun u : Lat wr => l2At_no ca cc n d D P u.val ((HR.out.chunks.below BWW.out).below u.ok) hn (fun j hj e => hc (mem_keysC.2 ⟨j, hj, e⟩)))
                    clear hf hc
                    refine wp_region_inv (Inv := fun x => Below wr.heap.size wr x) (by kernel_rfl) (by kernel_rfl) (Below.refl _ _).drew ?_
                    repeat (first | go_big_quiet_step (first | (go_at_call 23; exact C2.out _) | (go_at_call 47; exact C3.out _)) | quiet_step (fail))
                    refine wpQuiet_nil ?_
                    intro _ hw'
                    obtain ⟨u, hw''⟩ := hw'
                    subst hw''
                    have B7 := hide (below_next BW.out u.ok)
                    go_wp2_with fail
                    go_roundw
                    case rel => exact ⟨k + 1, by omega, by go_num, B7, hide (by rw [FB.out, firstBad_miss hlt HFF.out])⟩
                    case measure => simp [intOf]; omega
              · have HFF := hide (fFault_range (C := keysC D n) HD.out hd)
                have hdk : decide (okD d) = false := decide_eq_false hd
                go_wp2_with fail
                refine (dgS_any d _).mono ?_
                rintro e wr ⟨rfl, rfl⟩
                rw [hdk]
                go_wp2_with fail
                go_ret
                exact ⟨ret_int (by rw [HLF.out, FB.out, firstBad_hit hlt HFF.out]), BWW.out⟩
            · have hkl : k = F.length := by omega
              subst hkl
              go_wp2_with fail
              go_ret
              exact ⟨ret_int (by rw [HLF.out, FB.out, firstBad_end (Nat.le_refl _)]), BWW.out⟩
        · have hA1 : (A != 0) = true := by simpa using hA
          go_wp2_with fail
          go_ret
          exact ⟨ret_int (by rw [HLL.out, if_pos hA]), B2.out⟩
  · have hf1 : (fault D P n != 0) = true := by simpa using hf
    have HE := hide (show fetFault W F D P n = fault D P n by rw [fetFault, if_pos hf])
    generalize fault D P n = A at *
    clear hf
    go_wp2_with fail
    go_ret
    exact ⟨ret_int (by rw [HE.out]), B1.out⟩
end Go.Proofs.YtejfcapocikjmaaGreatDoor

namespace Go.Proofs.YtejfcapocikjmaaGreatDoor
open Go.RowKit Go.Maps
set_option linter.unusedVariables false
attribute [local go_sem ↓] Go.wp_at_zero Go.wp_at_succ

theorem step_append_any {P : Program} {w : World} {ops : Array Oper} {o : Oper} {a : Act} {K : Act → World → Prop} {Q : Exit → Act → World → Prop} {E : Prop} (hgd : o.guard = none) (s x : Operand) (t : TypeId)
    (ho : o.op = .call { callee := .builtin .append, args := #[s, x], argTypes := #[t, t] })
    (base : Nat) (e : TypeId) (i : TypeInfo) (z : Value) (size bytes : Nat) (ht : P.underlying t = some (.slice e)) (hi : P.info? e = some i) (hz : i.zero = some z)
    (hsize : i.size = size) (hby : i.bytes = bytes) (hzs : z.cells.size = size) (hsz : 0 < size)
    (g : Nat) (hs : a.eval s = .slice (some ⟨g, 0, none⟩) 0 0) (hown : w.ownsRow base e size (.slice (some ⟨g, 0, none⟩) 0 0) 0 [])
    (xa : Option Addr) (m c : Nat) (news : List Value) (hx : a.eval x = .slice xa m c) (hl : news.length = m * size) (hr : news ≠ [] → ∃ ad, xa = some ad ∧ ∀ j u, news[j]? = some u → w.cell? (ad.add j) = some u) (h1 : ∀ u ∈ news, u.oneCell' = true)
    (h63 : 0 + m ≤ maxLen) (hbytes : (0 + m) * bytes ≤ 140737488355328) (hbase : base ≤ w.heap.size)
    (h : ∀ av cv w', w'.ownsRow base e size (.slice av m cv) m news → Kept (fun b => b = g) w w' → K (a.put o.dst (.slice av m cv)) w') :
    if Region.wanted o (yielded ops a.tmps) = true then Oper.wp P o a w K Q else E := by
  have hw : Region.wanted o (yielded ops a.tmps) = true := by simp [Region.wanted, hgd]
  rw [if_pos hw]
  cases xa with
  | some ad =>
    refine wp_append_own w s x t ho base e i z size bytes ht hi hz hsize hby hzs hsz _ 0 [] hs hown ad m c news hx hl (fun j u hj => ?_) h1 h63 hbytes hbase fun v' w' h2 h3 _ => ?_
    · have h0 : news ≠ [] := fun e => by subst e; simp at hj
      obtain ⟨ad', e1, hc⟩ := hr h0
      simp only [Option.some.injEq] at e1
      subst e1
      exact hc j u hj
    · rw [List.nil_append, Nat.zero_add] at h2
      obtain ⟨av, cv, rfl⟩ := ownsRow_shape h2
      exact h av cv w' h2 ⟨h3.os, h3.tape, h3.output, h3.size, fun q hq hn => h3.block q hq (fun e => hn (by simp [Value.ownBlock] at e; omega))⟩
  | none =>
    have h0 : news = [] := by
      by_cases h0 : news = []
      · exact h0
      · obtain ⟨ad, e1, _⟩ := hr h0; cases e1
    subst h0
    have hm : m = 0 := by
      simp only [List.length_nil] at hl
      rcases Nat.mul_eq_zero.1 hl.symm with h2 | h2 <;> omega
    subst hm
    have hrun : (Builtin.append_ #[t, t] o.type #[.slice (some ⟨g, 0, none⟩) 0 0, .slice none 0 c]).run P w = .ok (.slice (some ⟨g, 0, none⟩) 0 0) w := by
      simp [Builtin.append_, run_underlying ht, sizeOf, typeInfo, hi, Builtin.lenOf, Builtin.firstCells, storeCells]
    unfold Oper.wp execOp
    simp only [ho, resolve, invoke, builtin, Sem.run_bind, Sem.run_pure, Result.andThen_ok, List.map_toArray, List.map_cons, List.map_nil, hs, hx, hrun]
    exact h _ _ w hown (Kept.refl _ _)
theorem rdW_news {w : World} {a : Option Addr} {W : List Wn} (h : RdW w a W) : flat W.length (laidW W.length W) ≠ [] → ∃ ad, a = some ad ∧ ∀ j u, (flat W.length (laidW W.length W))[j]? = some u → w.cell? (ad.add j) = some u := by
  intro hz
  have h0 : W ≠ [] := fun e => by subst e; exact hz rfl
  obtain ⟨b, off, rfl, hb, hc⟩ := h h0
  have hl := flat_length (n := W.length) (k := 2) (F := laidW W.length W) (fun i _ => laidW_length _ _ _)
  refine ⟨_, rfl, fun j u hj => ?_⟩
  have hjl : j < W.length * 2 := by
    by_cases hx : j < W.length * 2
    · exact hx
    · rw [List.getElem?_eq_none (by omega)] at hj; cases hj
  have hadd : (⟨b, off, none⟩ : Addr).add j = ⟨b, off + j, none⟩ := by unfold Addr.add; split <;> simp_all
  have e : j = j / 2 * 2 + j % 2 := by omega
  have h1 : j / 2 < W.length := by omega
  have h2 : j % 2 < 2 := by omega
  rw [e, flat_get (fun i _ => laidW_length _ _ _) _ _ h1 h2] at hj
  obtain ⟨c1, c2⟩ := hc (j / 2) h1
  rw [hadd]
  have hm : j % 2 = 0 ∨ j % 2 = 1 := by omega
  rcases hm with hm | hm
  · rw [hm] at hj
    have e2 : off + j = off + j / 2 * 2 := by omega
    rw [e2, c1]
    simpa [laidW, h1] using hj
  · rw [hm] at hj
    have e2 : off + j = off + j / 2 * 2 + 1 := by omega
    rw [e2, c2]
    simpa [laidW, h1] using hj
theorem flatW_one (W : List Wn) : ∀ u ∈ flat W.length (laidW W.length W), u.oneCell' = true := by
  intro u hu
  unfold flat at hu
  obtain ⟨i, hi, hu⟩ := List.mem_flatMap.1 hu
  unfold laidW at hu
  split at hu <;> simp at hu <;> rcases hu with rfl | rfl <;> rfl
theorem rdF_news {w : World} {a : Option Addr} {F : List Int} (h : Reads .i64 w a F) : F.map (Value.int .i64) ≠ [] → ∃ ad, a = some ad ∧ ∀ j u, (F.map (Value.int .i64))[j]? = some u → w.cell? (ad.add j) = some u := by
  intro hz
  obtain ⟨b, off, rfl, hb, hc⟩ := h (by intro e; subst e; simp at hz)
  exact ⟨_, rfl, reads_news hc⟩
theorem rows_apart {w : World} {B B' : Nat} {e e' : TypeId} {s s' : Nat} {v v' : Value} {n n' : Nat} {xs xs' : List Value} (h : w.ownsRow B e s v n xs) (h' : w.ownsRow B' e' s' v' n' xs') (he : e ≠ e') {b : Nat} (hb : v.ownBlock = some b) : v'.ownBlock ≠ some b := by
  intro hb'
  rcases h.2 with ⟨rfl, _⟩ | ⟨g, cap, cur, rfl, _, hh, _⟩
  · simp [Value.ownBlock] at hb
  · rcases h'.2 with ⟨rfl, _⟩ | ⟨g', cap', cur', rfl, _, hh', _⟩
    · simp [Value.ownBlock] at hb'
    · simp only [Value.ownBlock, Option.some.injEq] at hb hb'
      subst hb hb'
      rw [hh] at hh'
      simp only [Option.some.injEq, Obj.cells.injEq] at hh'
      exact he hh'.2.1
theorem made_at {w : World} {g base : Nat} {e : TypeId} {size : Nat} (hg : w.heap.size = g) (hb : base ≤ g) : (w.alloc (.cells #[] e)).ownsRow base e size (.slice (some ⟨g, 0, none⟩) 0 0) 0 [] := by
  subst hg
  exact World.ownsRow_made w #[] 0 hb (Nat.zero_le _) (by simp)
theorem Kept.threeF (w : World) (b : Nat) (u0 u1 u2 : Value) : Kept (fun x => x = b) w (((w.setCell ⟨b, 0, none⟩ u0).setCell ⟨b, 1, none⟩ u1).setCell ⟨b, 2, none⟩ u2) :=
  ((Kept.one w b 0 u0).trans (Kept.one _ b 1 u1)).trans (Kept.one _ b 2 u2)
set_option maxRecDepth 100000 in
set_option maxHeartbeats 12800000 in
theorem l10Copy_any (wa : Option Addr) (wk : Nat) (W : List Wn) (fa : Option Addr) (fc : Nat) (F : List Int) (ca : Option Addr) (cc n : Nat) (D : Nat → Int) (P : Nat → List Int) (w : World) (h : RdF w wa W fa F ca D P n) (hn : n ≤ 1048576) (hP : ∀ i, i < n → 0 < (P i).length ∧ (P i).length ≤ 1048576) (hWl : W.length ≤ 1048576) (hFl : F.length ≤ 1048576) :
    Calls Tryz.prog 21 #[fetV wa W.length wk fa F.length fc ca n cc] w fun e w' => ∃ xa xc ya yc za zc T, e = .returned (.agg #[.slice xa W.length xc, .slice ya F.length yc, .slice za n zc]) ∧ OwnW w.heap.size w' (.slice xa W.length xc) W ∧ w'.ownsRow w.heap.size 2 1 (.slice ya F.length yc) F.length (F.map (Value.int .i64)) ∧ GC T w'.heap.size w' (.slice za n zc) D P n ∧ w.heap.size ≤ T ∧ (∀ b, (Value.slice xa W.length xc).ownBlock = some b → b < T) ∧ (∀ b, (Value.slice ya F.length yc).ownBlock = some b → b < T) ∧ Below w.heap.size w w' := by
  obtain ⟨i1, ki, kz0, kz1, kz2⟩ := info_parts Tryz.infoWn
  obtain ⟨i0, hi0, hz0, hz1, hz2⟩ := info_parts Tryz.infoI64
  have X0 := hide ((Bx3.new w (.slice wa W.length wk) (.slice fa F.length fc) (.slice ca n cc) 28).below (below_alloc _ (.cells #[.slice none 0 0, .slice none 0 0, .slice none 0 0] 28)))
  have Y0 := hide (Bx3.new (w.alloc (.cells #[.slice wa W.length wk, .slice fa F.length fc, .slice ca n cc] 28)) (.slice none 0 0) (.slice none 0 0) (.slice none 0 0) 28)
  have hs : (w.alloc (.cells #[.slice wa W.length wk, .slice fa F.length fc, .slice ca n cc] 28)).heap.size = w.heap.size + 1 := by simp
  rw [hs] at Y0
  clear hs
  have B0 := hide (below_next (below_alloc w (.cells #[.slice wa W.length wk, .slice fa F.length fc, .slice ca n cc] 28)) (below_alloc _ (.cells #[.slice none 0 0, .slice none 0 0, .slice none 0 0] 28)))
  have hW0 : ((w.alloc (.cells #[.slice wa W.length wk, .slice fa F.length fc, .slice ca n cc] 28)).alloc (.cells #[.slice none 0 0, .slice none 0 0, .slice none 0 0] 28)).heap.size = w.heap.size + 2 := by simp
  have HW0 := hide hW0
  have H0 := hide (h.below B0.out)
  have HP := hide hP
  have HFW := hide (flat_length (n := W.length) (k := 2) (F := laidW W.length W) (fun i _ => laidW_length _ _ _))
  have HFF : Hid ((F.map (Value.int .i64)).length = F.length * 1) := hide (by simp)
  have hm0 : 0 + W.length ≤ maxLen := by unfold maxLen; omega
  have hm0' : (0 + W.length) * 16 ≤ 140737488355328 := by omega
  have hm1 : 0 + F.length ≤ maxLen := by unfold maxLen; omega
  have hm1' : (0 + F.length) * 8 ≤ 140737488355328 := by omega
  clear h hP hW0
  unfold fetV
  go_enter Tryz.func21, Tryz.ntmps21
  obtain ⟨⟨t0, t1, t2⟩, -, -, -⟩ := X0.out
  go_upto_region 1 with fail
  generalize (w.alloc (.cells #[.slice wa W.length wk, .slice fa F.length fc, .slice ca n cc] 28)).alloc (.cells #[.slice none 0 0, .slice none 0 0, .slice none 0 0] 28) = W0 at *
  have HC : Hid (∀ (u w2 : World) (S : Nat → Prop), (u.cell? ⟨w.heap.size, 0, none⟩ = some (.slice wa W.length wk) ∧ u.cell? ⟨w.heap.size, 1, none⟩ = some (.slice fa F.length fc) ∧ u.cell? ⟨w.heap.size, 2, none⟩ = some (.slice ca n cc)) → Kept S u w2 → ¬ S w.heap.size → (w2.cell? ⟨w.heap.size, 0, none⟩ = some (.slice wa W.length wk) ∧ w2.cell? ⟨w.heap.size, 1, none⟩ = some (.slice fa F.length fc) ∧ w2.cell? ⟨w.heap.size, 2, none⟩ = some (.slice ca n cc))) := by
    intro u w2 S ⟨h0, h1, h2⟩ hk hn
    have hlt := World.block_lt_of_cell? u ⟨w.heap.size, 0, none⟩ h0
    exact ⟨(hk.cell (p := ⟨w.heap.size, 0, none⟩) hlt hn).trans h0, (hk.cell (p := ⟨w.heap.size, 1, none⟩) hlt hn).trans h1, (hk.cell (p := ⟨w.heap.size, 2, none⟩) hlt hn).trans h2⟩
  go_region_held3 (fun u => u.cell? ⟨w.heap.size, 0, none⟩ = some (.slice wa W.length wk) ∧ u.cell? ⟨w.heap.size, 1, none⟩ = some (.slice fa F.length fc) ∧ u.cell? ⟨w.heap.size, 2, none⟩ = some (.slice ca n cc))
    (first
      | exact HC.out _ _ _ (by assumption) hk9 id
      | exact HC.out _ _ _ (by assumption) hk7 (fun (e : w.heap.size = _) => by have := HW0.out; have := B3.out.size; omega)
      | exact HC.out _ _ _ (by assumption) hk3 (fun (e : w.heap.size = _) => by have := HW0.out; omega)
      | go_keep)
    (first
      | (refine step_append_any (by rfl) (.tmp 3) (.tmp 5) 24 (by rfl) W0.heap.size 78 i1 (.agg #[.int .i64 0, .int .i64 0]) 2 16 Tryz.underlying24 ki kz0 kz1 kz2 rfl (by decide) W0.heap.size (by rfl) (made_at rfl (Nat.le_refl _)) wa W.length wk (flat W.length (laidW W.length W)) (by rfl) HFW.out (rdW_news (H0.out.wants.below (below_alloc W0 (.cells #[] 78)).drew)) (flatW_one W) hm0 hm0' (below_alloc W0 (.cells #[] 78)).size ?_; intro av cv w3 hown3 hk3; have O3 := hide hown3; have B3 := hide ((below_alloc W0 (.cells #[] 78)).drew.trans (hk3.below (below_alloc W0 (.cells #[] 78)).size (fun q hq hS => by omega))); clear hown3)
      | (refine step_append_any (by rfl) (.tmp 3) (.tmp 5) 24 (by rfl) W0.heap.size 78 i1 (.agg #[.int .i64 0, .int .i64 0]) 2 16 Tryz.underlying24 ki kz0 kz1 kz2 rfl (by decide) W0.heap.size (by rfl) ((made_at (w := W0) rfl (Nat.le_refl _)).alloc _) wa W.length wk (flat W.length (laidW W.length W)) (by rfl) HFW.out (rdW_news (H0.out.wants.below (below_next (below_alloc W0 (.cells #[] 78)) (below_alloc (W0.alloc (.cells #[] 78)) (.cells #[] 2))).drew)) (flatW_one W) hm0 hm0' (below_next (below_alloc W0 (.cells #[] 78)) (below_alloc (W0.alloc (.cells #[] 78)) (.cells #[] 2))).size ?_; intro av cv w3 hown3 hk3; have O3 := hide hown3; have B3 := hide ((below_next (below_alloc W0 (.cells #[] 78)) (below_alloc (W0.alloc (.cells #[] 78)) (.cells #[] 2))).drew.trans (hk3.below (below_next (below_alloc W0 (.cells #[] 78)) (below_alloc (W0.alloc (.cells #[] 78)) (.cells #[] 2))).size (fun q hq hS => by omega))); have E4 : Hid (w3.ownsRow W0.heap.size 2 1 (.slice (some ⟨W0.heap.size + 1, 0, none⟩) 0 0) 0 []) := hide (ownsRow_kept (show World.ownsRow ((W0.alloc (.cells #[] 78)).alloc (.cells #[] 2)).drew W0.heap.size 2 1 (.slice (some ⟨W0.heap.size + 1, 0, none⟩) 0 0) 0 [] from made_at (w := W0.alloc (.cells #[] 78)) (by simp) (by omega)) hk3 (fun b hb e => by simp [Value.ownBlock] at hb; omega)); clear hown3)
      | (refine step_append_any (by rfl) (.tmp 3) (.tmp 5) 24 (by rfl) W0.heap.size 78 i1 (.agg #[.int .i64 0, .int .i64 0]) 2 16 Tryz.underlying24 ki kz0 kz1 kz2 rfl (by decide) (W0.heap.size + 1) (by rfl) (made_at (w := W0.alloc (.cells #[] 2)) (by simp) (by omega)) wa W.length wk (flat W.length (laidW W.length W)) (by rfl) HFW.out (rdW_news (H0.out.wants.below (below_next (below_alloc W0 (.cells #[] 2)) (below_alloc (W0.alloc (.cells #[] 2)) (.cells #[] 78))).drew)) (flatW_one W) hm0 hm0' (below_next (below_alloc W0 (.cells #[] 2)) (below_alloc (W0.alloc (.cells #[] 2)) (.cells #[] 78))).size ?_; intro av cv w3 hown3 hk3; have O3 := hide hown3; have B3 := hide ((below_next (below_alloc W0 (.cells #[] 2)) (below_alloc (W0.alloc (.cells #[] 2)) (.cells #[] 78))).drew.trans (hk3.below (below_next (below_alloc W0 (.cells #[] 2)) (below_alloc (W0.alloc (.cells #[] 2)) (.cells #[] 78))).size (fun q hq hS => by omega))); have E4 : Hid (w3.ownsRow W0.heap.size 2 1 (.slice (some ⟨W0.heap.size, 0, none⟩) 0 0) 0 []) := hide (ownsRow_kept (show World.ownsRow ((W0.alloc (.cells #[] 2)).alloc (.cells #[] 78)).drew W0.heap.size 2 1 (.slice (some ⟨W0.heap.size, 0, none⟩) 0 0) 0 [] from (made_at (w := W0) rfl (Nat.le_refl _)).alloc _) hk3 (fun b hb e => by simp [Value.ownBlock] at hb; omega)); clear hown3)
      | (refine step_append_any (by rfl) (.tmp 7) (.tmp 9) 25 (by rfl) W0.heap.size 2 i0 (.int .i64 0) 1 8 Tryz.underlying25 hi0 hz0 hz1 hz2 rfl (by decide) w3.heap.size (by rfl) (made_at rfl B3.out.size) fa F.length fc (F.map (Value.int .i64)) (by rfl) HFF.out (rdF_news (H0.out.failed.below (below_next B3.out (below_alloc w3 (.cells #[] 2))))) (ints_one _ _) hm1 hm1' (below_next B3.out (below_alloc w3 (.cells #[] 2))).size ?_; intro ay cy w7 hown7 hk7; have O7 := hide hown7; have B7 := hide ((below_next B3.out (below_alloc w3 (.cells #[] 2))).trans (hk7.below (below_next B3.out (below_alloc w3 (.cells #[] 2))).size (fun q hq hS => by have := B3.out.size; omega))); have O6 := hide (ownsRow_kept (O3.out.alloc _) hk7 (fun b hb e => by have := (O3.out.lt b hb).2; omega)); clear hown7)
      | (refine step_append_any (by rfl) (.tmp 7) (.tmp 9) 25 (by rfl) W0.heap.size 2 i0 (.int .i64 0) 1 8 Tryz.underlying25 hi0 hz0 hz1 hz2 rfl (by decide) (W0.heap.size + 1) (by rfl) E4.out fa F.length fc (F.map (Value.int .i64)) (by rfl) HFF.out (rdF_news (H0.out.failed.below B3.out)) (ints_one _ _) hm1 hm1' B3.out.size ?_; intro ay cy w7 hown7 hk7; have O7 := hide hown7; have B7 := hide (B3.out.trans (hk7.below B3.out.size (fun q hq hS => by have := B3.out.size; omega))); have O6 := hide (ownsRow_kept O3.out hk7 (fun b hb e => rows_apart O3.out E4.out (by decide) hb (by subst e; rfl))); clear hown7)
      | (refine step_append_any (by rfl) (.tmp 7) (.tmp 9) 25 (by rfl) W0.heap.size 2 i0 (.int .i64 0) 1 8 Tryz.underlying25 hi0 hz0 hz1 hz2 rfl (by decide) W0.heap.size (by rfl) E4.out fa F.length fc (F.map (Value.int .i64)) (by rfl) HFF.out (rdF_news (H0.out.failed.below B3.out)) (ints_one _ _) hm1 hm1' B3.out.size ?_; intro ay cy w7 hown7 hk7; have O7 := hide hown7; have B7 := hide (B3.out.trans (hk7.below B3.out.size (fun q hq hS => by have := B3.out.size; omega))); have O6 := hide (ownsRow_kept O3.out hk7 (fun b hb e => rows_apart O3.out E4.out (by decide) hb (by subst e; rfl))); clear hown7)
      | (go_at_call 50; refine (l2Copy_any ca cc n D P w7 (H0.out.chunks.below B7.out) hn HP.out).mono ?_; rintro e w9 ⟨az, cz, rfl, hG, hb9⟩; have G9 := hide hG; have B9 := hide (below_next B7.out hb9); have O9 := hide (ownsRow_below O7.out hb9); have P9 := hide (ownsRow_below O6.out hb9); have hz9 := hb9.size; have hk9 : Kept (fun _ => False) w7 w9 := Kept.of_below hb9; obtain ⟨⟨m0, m1, m2⟩, k0, k1, k2⟩ := Y0.out.below B9.out; clear hG hb9))
  all_goals
    go_wp2_with fail
    have hk := Kept.threeF w9 (w.heap.size + 1) (.slice av W.length cv) (.slice ay F.length cy) (.slice az n cz)
    refine bodyPost_ret (v := .agg #[.slice av W.length cv, .slice ay F.length cy, .slice az n cz]) (by simp [results, Tryz.results21, go_sem, m0, m1, m2]) rfl ⟨av, cv, ay, cy, az, cz, w7.heap.size, rfl, ?_, ?_, ?_, ?_, ?_, ?_, ?_⟩
    · exact ownsRow_mono (ownsRow_kept P9.out hk (fun b hb e => by have := (P9.out.lt b hb).1; have := HW0.out; omega)) (by have := HW0.out; omega)
    · exact ownsRow_mono (ownsRow_kept O9.out hk (fun b hb e => by have := (O9.out.lt b hb).1; have := HW0.out; omega)) (by have := HW0.out; omega)
    · have hz : (((w9.setCell ⟨w.heap.size + 1, 0, none⟩ (.slice av W.length cv)).setCell ⟨w.heap.size + 1, 1, none⟩ (.slice ay F.length cy)).setCell ⟨w.heap.size + 1, 2, none⟩ (.slice az n cz)).heap.size = w9.heap.size := by simp [World.setCell]
      rw [hz]
      exact G9.out.kept hk (fun x h1 h2 e => by have := B7.out.size; have := HW0.out; omega)
    · have := B7.out.size; have := HW0.out; omega
    · exact fun b hb => (O6.out.lt b hb).2
    · exact fun b hb => (O7.out.lt b hb).2
    · have hb9 := below_next B0.out B9.out
      exact hb9.trans (hk.below (B := w.heap.size) hb9.size (fun k hk e => by omega))
end Go.Proofs.YtejfcapocikjmaaGreatDoor

namespace Go.Proofs.YtejfcapocikjmaaGreatDoor
open Go.RowKit Go.Maps
set_option linter.unusedVariables false
set_option maxRecDepth 100000 in
set_option maxHeartbeats 1600000 in
theorem l10Bad_any (q : Int) (w : World) : Calls Tryz.prog 19 #[.int .i64 q] w fun e w' => e = .returned (.agg #[.int .i64 q, .slice none 0 0, .slice none 0 0, .slice none 0 0]) ∧ Below w.heap.size w w' := by
  go_enter Tryz.func19, Tryz.ntmps19
  go_wp2_with fail
  exact bodyPost_ret (v := .agg #[.int .i64 q, .slice none 0 0, .slice none 0 0, .slice none 0 0]) (by simp [results, Tryz.results19, go_sem]) rfl ⟨rfl, below_alloc _ _⟩
set_option maxRecDepth 100000 in
set_option maxHeartbeats 6400000 in
theorem specAskFetch_bad (wa : Option Addr) (wk : Nat) (W : List Wn) (fa : Option Addr) (fc : Nat) (F : List Int) (ca : Option Addr) (cc n : Nat) (D : Nat → Int) (P : Nat → List Int) (d : Int) (w : World) (h : RdF w wa W fa F ca D P n) (hn : n ≤ 1048576) (hP : SmallP P n) (hWl : W.length ≤ 1048576) (hFl : F.length ≤ 1048576) (hfc : F.length ≤ fc) (hz : fetFault W F D P n ≠ 0) :
    Calls Tryz.prog 58 #[fetV wa W.length wk fa F.length fc ca n cc, .int .i64 d] w (ResF (fetFault W F D P n) [] [] D P 0 w) := by
  have B0 := hide (below_next (below_alloc w (.cells #[.slice wa W.length wk, .slice fa F.length fc, .slice ca n cc] 28)) (below_alloc _ (.cells #[.int .i64 0, .slice none 0 0, .slice none 0 0, .slice none 0 0] 33)))
  have X0 := hide ((Bx3.new w (.slice wa W.length wk) (.slice fa F.length fc) (.slice ca n cc) 28).below (below_alloc _ (.cells #[.int .i64 0, .slice none 0 0, .slice none 0 0, .slice none 0 0] 33)))
  have R0 := hide (Bx4.new (w.alloc (.cells #[.slice wa W.length wk, .slice fa F.length fc, .slice ca n cc] 28)) (.int .i64 0) (.slice none 0 0) (.slice none 0 0) (.slice none 0 0) 33)
  have hs : (w.alloc (.cells #[.slice wa W.length wk, .slice fa F.length fc, .slice ca n cc] 28)).heap.size = w.heap.size + 1 := by simp
  rw [hs] at R0
  clear hs
  have HFF := hide (l10Fault_any w.heap.size wa wk W fa fc F ca cc n D P _ X0.out (h.below B0.out) hn hP hWl hFl hfc)
  clear h hP
  unfold fetV
  have hz1 : (fetFault W F D P n != 0) = true := by simpa using hz
  generalize fetFault W F D P n = A at *
  clear hz
  go_enter Tryz.func58, Tryz.ntmps58
  go_wp2_with fail
  generalize (w.alloc (.cells #[.slice wa W.length wk, .slice fa F.length fc, .slice ca n cc] 28)).alloc (.cells #[.int .i64 0, .slice none 0 0, .slice none 0 0, .slice none 0 0] 33) = W0 at *
  refine HFF.out.mono ?_
  rintro e w1 ⟨rfl, hb1⟩
  have B1 := hide (below_next B0.out hb1)
  have X1 := hide (X0.out.below hb1)
  have R1 := hide (R0.out.below hb1)
  clear hb1 X0 R0 B0 HFF
  go_wp2_with fail
  refine (l10Bad_any A w1).mono ?_
  rintro e w9 ⟨rfl, hb9⟩
  have B9 := hide (below_next B1.out hb9)
  obtain ⟨⟨m0, m1, m2, m3⟩, k0, k1, k2, k3⟩ := R1.out.below hb9
  clear hb9
  go_wp2_with fail
  have hk := Kept.fourF w9 (w.heap.size + 1) (.int .i64 A) (.slice none 0 0) (.slice none 0 0) (.slice none 0 0)
  exact bodyPost_ret (v := .agg #[.int .i64 A, .slice none 0 0, .slice none 0 0, .slice none 0 0]) (by simp [results, Tryz.results58, go_sem, m0, m1, m2, m3]) rfl (ResF.bad (B9.out.trans (hk.below (B := w.heap.size) B9.out.size (fun k hk e => by omega))))
set_option maxRecDepth 100000 in
set_option maxHeartbeats 6400000 in
theorem specAskFetch_range (wa : Option Addr) (wk : Nat) (W : List Wn) (fa : Option Addr) (fc : Nat) (F : List Int) (ca : Option Addr) (cc n : Nat) (D : Nat → Int) (P : Nat → List Int) (d : Int) (w : World) (h : RdF w wa W fa F ca D P n) (hn : n ≤ 1048576) (hP : SmallP P n) (hWl : W.length ≤ 1048576) (hFl : F.length ≤ 1048576) (hfc : F.length ≤ fc) (hz : fetFault W F D P n = 0) (hd : ¬ okD d) :
    Calls Tryz.prog 58 #[fetV wa W.length wk fa F.length fc ca n cc, .int .i64 d] w (ResF 3 [] [] D P 0 w) := by
  have B0 := hide (below_next (below_alloc w (.cells #[.slice wa W.length wk, .slice fa F.length fc, .slice ca n cc] 28)) (below_alloc _ (.cells #[.int .i64 0, .slice none 0 0, .slice none 0 0, .slice none 0 0] 33)))
  have X0 := hide ((Bx3.new w (.slice wa W.length wk) (.slice fa F.length fc) (.slice ca n cc) 28).below (below_alloc _ (.cells #[.int .i64 0, .slice none 0 0, .slice none 0 0, .slice none 0 0] 33)))
  have R0 := hide (Bx4.new (w.alloc (.cells #[.slice wa W.length wk, .slice fa F.length fc, .slice ca n cc] 28)) (.int .i64 0) (.slice none 0 0) (.slice none 0 0) (.slice none 0 0) 33)
  have hs : (w.alloc (.cells #[.slice wa W.length wk, .slice fa F.length fc, .slice ca n cc] 28)).heap.size = w.heap.size + 1 := by simp
  rw [hs] at R0
  clear hs
  have HFF := hide (l10Fault_any w.heap.size wa wk W fa fc F ca cc n D P _ X0.out (h.below B0.out) hn hP hWl hFl hfc)
  rw [hz] at HFF
  have HIS := hide (fun (u : World) => dgS_any d u)
  rw [decide_eq_false hd] at HIS
  clear h hP hz hd
  unfold fetV
  go_enter Tryz.func58, Tryz.ntmps58
  go_wp2_with fail
  generalize (w.alloc (.cells #[.slice wa W.length wk, .slice fa F.length fc, .slice ca n cc] 28)).alloc (.cells #[.int .i64 0, .slice none 0 0, .slice none 0 0, .slice none 0 0] 33) = W0 at *
  refine HFF.out.mono ?_
  rintro e w1 ⟨rfl, hb1⟩
  have B1 := hide (below_next B0.out hb1)
  have X1 := hide (X0.out.below hb1)
  have R1 := hide (R0.out.below hb1)
  clear hb1 X0 R0 B0 HFF
  go_wp2_with fail
  refine (HIS.out w1).mono ?_
  rintro e w1 ⟨rfl, rfl⟩
  go_wp2_with fail
  refine (l10Bad_any 3 w1).mono ?_
  rintro e w9 ⟨rfl, hb9⟩
  have B9 := hide (below_next B1.out hb9)
  obtain ⟨⟨m0, m1, m2, m3⟩, k0, k1, k2, k3⟩ := R1.out.below hb9
  clear hb9
  go_wp2_with fail
  have hk := Kept.fourF w9 (w.heap.size + 1) (.int .i64 3) (.slice none 0 0) (.slice none 0 0) (.slice none 0 0)
  exact bodyPost_ret (v := .agg #[.int .i64 3, .slice none 0 0, .slice none 0 0, .slice none 0 0]) (by simp [results, Tryz.results58, go_sem, m0, m1, m2, m3]) rfl (ResF.bad (B9.out.trans (hk.below (B := w.heap.size) B9.out.size (fun k hk e => by omega))))
set_option maxRecDepth 100000 in
set_option maxHeartbeats 6400000 in
theorem specLoseFetch_none (wa : Option Addr) (wk : Nat) (W : List Wn) (fa : Option Addr) (fc : Nat) (F : List Int) (ca : Option Addr) (cc n : Nat) (D : Nat → Int) (P : Nat → List Int) (d : Int) (w : World) (h : RdF w wa W fa F ca D P n) (hn : n ≤ 1048576) (hP : SmallP P n) (hWl : W.length ≤ 1048576) (hFl : F.length ≤ 1048576) (hfc : F.length ≤ fc) (hz : fetFault W F D P n = 0) (hf : ∀ j, j < W.length → (W.getD j (0, 0)).1 ≠ d) :
    Calls Tryz.prog 60 #[fetV wa W.length wk fa F.length fc ca n cc, .int .i64 d] w (ResF 4 [] [] D P 0 w) := by
  have B0 := hide (below_next (below_alloc w (.cells #[.slice wa W.length wk, .slice fa F.length fc, .slice ca n cc] 28)) (below_alloc _ (.cells #[.int .i64 0, .slice none 0 0, .slice none 0 0, .slice none 0 0] 33)))
  have X0 := hide ((Bx3.new w (.slice wa W.length wk) (.slice fa F.length fc) (.slice ca n cc) 28).below (below_alloc _ (.cells #[.int .i64 0, .slice none 0 0, .slice none 0 0, .slice none 0 0] 33)))
  have R0 := hide (Bx4.new (w.alloc (.cells #[.slice wa W.length wk, .slice fa F.length fc, .slice ca n cc] 28)) (.int .i64 0) (.slice none 0 0) (.slice none 0 0) (.slice none 0 0) 33)
  have hs : (w.alloc (.cells #[.slice wa W.length wk, .slice fa F.length fc, .slice ca n cc] 28)).heap.size = w.heap.size + 1 := by simp
  rw [hs] at R0
  clear hs
  have HFF := hide (l10Fault_any w.heap.size wa wk W fa fc F ca cc n D P _ X0.out (h.below B0.out) hn hP hWl hFl hfc)
  rw [hz] at HFF
  have HAT := hide (fun (u : World) (hb : Below w.heap.size w u) (hX : Bx3 u w.heap.size (.slice wa W.length wk) (.slice fa F.length fc) (.slice ca n cc)) => l10At_no w.heap.size wa wk W d u hX.1.1 (h.wants.below hb) hWl hf)
  clear h hP hz hf
  unfold fetV
  go_enter Tryz.func60, Tryz.ntmps60
  go_wp2_with fail
  generalize (w.alloc (.cells #[.slice wa W.length wk, .slice fa F.length fc, .slice ca n cc] 28)).alloc (.cells #[.int .i64 0, .slice none 0 0, .slice none 0 0, .slice none 0 0] 33) = W0 at *
  refine HFF.out.mono ?_
  rintro e w1 ⟨rfl, hb1⟩
  have B1 := hide (below_next B0.out hb1)
  have X1 := hide (X0.out.below hb1)
  have R1 := hide (R0.out.below hb1)
  clear hb1 X0 R0 B0 HFF
  go_wp2_with fail
  refine (HAT.out w1 B1.out X1.out).mono ?_
  rintro e w1 ⟨rfl, rfl⟩
  go_wp2_with fail
  refine (l10Bad_any 4 w1).mono ?_
  rintro e w9 ⟨rfl, hb9⟩
  have B9 := hide (below_next B1.out hb9)
  obtain ⟨⟨m0, m1, m2, m3⟩, k0, k1, k2, k3⟩ := R1.out.below hb9
  clear hb9
  go_wp2_with fail
  have hk := Kept.fourF w9 (w.heap.size + 1) (.int .i64 4) (.slice none 0 0) (.slice none 0 0) (.slice none 0 0)
  exact bodyPost_ret (v := .agg #[.int .i64 4, .slice none 0 0, .slice none 0 0, .slice none 0 0]) (by simp [results, Tryz.results60, go_sem, m0, m1, m2, m3]) rfl (ResF.bad (B9.out.trans (hk.below (B := w.heap.size) B9.out.size (fun k hk e => by omega))))
end Go.Proofs.YtejfcapocikjmaaGreatDoor

