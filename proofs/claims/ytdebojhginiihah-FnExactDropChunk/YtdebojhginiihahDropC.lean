/-
  A chunk is dropped: contracts of the program's and the model's DropChunk.
-/
import Derived.Test.YtdebojhginiihahPutC
namespace Go.Proofs.Ytdebojhginiihah
open Go.RowKit Go.Maps
set_option linter.unusedVariables false
attribute [local go_sem ↓] Go.wp_at_zero Go.wp_at_succ

/-- A chunk is deleted. -/
theorem Holds.drop {w : World} {b N : Nat} {L L' : List Ch} {T : Nat} {d : Int} (h : Holds w b N L T) (hd : d ∈ L.map Prod.fst) (hm : ∀ p, p ∈ L' ↔ p ∈ L ∧ p.1 ≠ d) (hl : L'.length + 1 = L.length) (hn : (L'.map Prod.fst).Nodup) :
    ∃ Dt, w.ownsMap Try.prog 2 RV b N Dt ∧ ∀ w', w'.ownsMap Try.prog 2 RV b N (Dt.del (.int .i64 d)) → Kept (fun x => x = b) w w' → Holds w' b N L' T := by
  obtain ⟨Dt, A, C, h1, h2, h3, h4, h5⟩ := h
  refine ⟨Dt, h1, fun w' ho hk => ?_⟩
  have hkeep : ∀ {x : Option Addr} {ys : List Int}, Reads .u8 w x ys → Reads .u8 w' x ys := fun hx => hx.kept hk (fun hz y hy e => Reads.far h1 hx hz y hy e)
  refine ⟨_, A, C, ho, fun k => ?_, fun p hp => ?_, ?_, hn⟩
  · by_cases e : k = d
    · subst e
      rw [has_del_same]
      symm
      rw [decide_eq_false_iff_not]
      intro hk'
      obtain ⟨p, hp, e⟩ := List.mem_map.1 hk'
      exact ((hm p).1 hp).2 e
    · rw [has_del_other (by simpa using e), h2 k, decide_eq_decide]
      constructor
      · intro hk'
        obtain ⟨p, hp, rfl⟩ := List.mem_map.1 hk'
        exact List.mem_map_of_mem ((hm p).2 ⟨hp, e⟩)
      · intro hk'
        obtain ⟨p, hp, rfl⟩ := List.mem_map.1 hk'
        exact List.mem_map_of_mem ((hm p).1 hp).1
  · obtain ⟨hp1, hp2⟩ := (hm p).1 hp
    exact ⟨fun z => by rw [atKey_del_other (by simpa using hp2)]; exact (h3 p hp1).1 z, hkeep (h3 p hp1).2.1, (h3 p hp1).2.2⟩
  · have := size_del (k := .int .i64 d) (h1.tidy law64)
    rw [h2 d, decide_eq_true hd, h4] at this
    simp at this
    omega

theorem del_up {D : Nat → Int} {P : Nat → List Int} {n m : Nat} (hR : Right D P n) (hm : m < n) : ∀ i j, i < j → j < n - 1 → del D m i < del D m j := by
  intro i j hij hj
  unfold del
  by_cases h1 : i < m
  · rw [if_pos h1]
    by_cases h2 : j < m
    · rw [if_pos h2]; exact hR.inj i j hij (by omega)
    · rw [if_neg h2]; exact hR.inj i (j + 1) (by omega) (by omega)
  · rw [if_neg h1, if_neg (by omega)]; exact hR.inj (i + 1) (j + 1) (by omega) (by omega)
theorem del_mem {D : Nat → Int} {P : Nat → List Int} {n m : Nat} (hR : Right D P n) (hm : m < n) (p : Ch) : p ∈ lst (del D m) (del P m) (n - 1) ↔ p ∈ lst D P n ∧ p.1 ≠ D m := by
  rw [lst_mem, lst_mem]
  constructor
  · rintro ⟨i, hi, rfl⟩
    unfold del
    by_cases h1 : i < m
    · simp only [if_pos h1]
      refine ⟨⟨i, by omega, rfl⟩, ?_⟩
      have := hR.inj i m h1 hm
      simp; omega
    · simp only [if_neg h1]
      refine ⟨⟨i + 1, by omega, rfl⟩, ?_⟩
      have := hR.inj m (i + 1) (by omega) (by omega)
      simp; omega
  · rintro ⟨⟨i, hi, rfl⟩, hne⟩
    have him : i ≠ m := fun e => hne (by rw [e])
    by_cases h1 : i < m
    · exact ⟨i, by omega, by simp [del, h1]⟩
    · refine ⟨i - 1, by omega, ?_⟩
      have h2 : ¬ i - 1 < m := by omega
      have h3 : i - 1 + 1 = i := by omega
      simp [del, h2, h3]

set_option maxRecDepth 100000 in
set_option maxHeartbeats 800000 in
theorem implDrop_bad (a : Option Addr) (c n : Nat) (D : Nat → Int) (P : Nat → List Int) (d : Int) (w : World) (h : RdC w a D P n) (hn : n ≤ 1048576) (hP : ∀ i, i < n → U8 (P i) ∧ (P i).length ≤ 1048576) (hF : fault D P n ≠ 0) :
    Calls Try.prog 27 #[.slice a n c, .int .i64 d] w (ResC (fault D P n) D P 0 w) := by
  have HC := hide (implFault_any a c n D P (w.alloc (.cells #[.int .i64 0, .slice none 0 0] 27)) (h.below (below_alloc _ _)) hn hP)
  generalize fault D P n = F at *
  have hne : (F != 0) = true := by simpa using hF
  clear h hP hF
  go_enter Try.func27, Try.ntmps27
  go_wp2_with fail
  refine HC.out.mono ?_
  rintro e w1 ⟨rfl, b1⟩
  obtain ⟨⟨q0, q1⟩, q2, q3⟩ := (Box.new w (.int .i64 0) (.slice none 0 0) 27).below b1
  have B1 := hide (below_next (below_alloc w (.cells #[.int .i64 0, .slice none 0 0] 27)) b1)
  clear b1 HC
  go_wp2_with fail
  exact bodyPost_ret (v := .agg #[.int .i64 F, .slice none 0 0]) (by simp [results, Try.results27, go_sem, q0, q1]) rfl (ResC.no ((B1.out.setCell (Nat.le_refl _) _).setCell (Nat.le_refl _) _))

set_option maxRecDepth 100000 in
set_option maxHeartbeats 800000 in
theorem implDrop_no (a : Option Addr) (c n : Nat) (D : Nat → Int) (P : Nat → List Int) (d : Int) (w : World) (h : RdC w a D P n) (hn : n ≤ 1048576) (hP : ∀ i, i < n → U8 (P i) ∧ (P i).length ≤ 1048576) (hF : fault D P n = 0) (hw : (Lit.int .i64 d).wf = true) (hd : ∀ j, j < n → D j ≠ d) :
    Calls Try.prog 27 #[.slice a n c, .int .i64 d] w (ResC 4 D P 0 w) := by
  have hfl := implFault_any a c n D P (w.alloc (.cells #[.int .i64 0, .slice none 0 0] 27)) (h.below (below_alloc _ _)) hn hP
  rw [hF] at hfl
  have HR := hide (fault_zero hF)
  have HC := hide hfl
  have HA := hide h
  have HD : Hid (d ∉ (lst D P n).map Prod.fst) := by intro hm; obtain ⟨i, hi, e⟩ := lst_key.1 hm; exact hd i hi e
  clear h hP hF hfl hd
  go_enter Try.func27, Try.ntmps27
  go_wp2_with fail
  refine HC.out.mono ?_
  rintro e w1 ⟨rfl, b1⟩
  have X1 := hide ((Box.new w (.int .i64 0) (.slice none 0 0) 27).below b1)
  have B1 := hide (below_next (below_alloc w (.cells #[.int .i64 0, .slice none 0 0] 27)) b1)
  clear b1 HC
  go_wp2_with fail
  refine (mapChunks_any a c n D P w1 (HA.out.below B1.out) HR.out).mono ?_
  rintro e w2 ⟨bm, rfl, hbm, H2, b2⟩
  have HL := hide (H2.no HD.out hw 69 Try.underlying69)
  have X2 := hide ((X1.out.below b2).below (below_alloc _ (.cells #[.int .i64 0, .slice none 0 0] 65)))
  have B2 := hide (below_next (below_next B1.out b2) (below_alloc _ (.cells #[.int .i64 0, .slice none 0 0] 65)))
  obtain ⟨⟨q0, q1⟩, q2, q3⟩ := X2.out
  clear b2 X1 H2
  go_wp2_with (first | (at_lookup; refine wpList_look rfl _ _ 69 true rfl _ _ _ rfl rfl HL.out ?_) | fail)
  exact bodyPost_ret (v := .agg #[.int .i64 4, .slice none 0 0]) (by simp [results, Try.results27, go_sem, q0, q1]) rfl (ResC.no ((B2.out.setCell (Nat.le_refl _) _).setCell (Nat.le_refl _) _))

set_option maxRecDepth 100000 in
set_option maxHeartbeats 1600000 in
theorem implDrop_yes (a : Option Addr) (c n m : Nat) (D : Nat → Int) (P : Nat → List Int) (d : Int) (w : World) (h : RdC w a D P n) (hn : n ≤ 1048576) (hP : ∀ i, i < n → U8 (P i) ∧ (P i).length ≤ 1048576) (hF : fault D P n = 0) (hw : (Lit.int .i64 d).wf = true) (hm : m < n) (hd : D m = d) :
    Calls Try.prog 27 #[.slice a n c, .int .i64 d] w (ResC 0 (del D m) (del P m) (n - 1) w) := by
  have hfl := implFault_any a c n D P (w.alloc (.cells #[.int .i64 0, .slice none 0 0] 27)) (h.below (below_alloc _ _)) hn hP
  rw [hF] at hfl
  have HR := hide (fault_zero hF)
  have hn40 := HR.out.many
  have HC := hide hfl
  have HA := hide h
  have HM : Hid ((d, P m) ∈ lst D P n) := lst_mem.2 ⟨m, hm, by rw [hd]⟩
  have hpw := pairwise_lst (D := del D m) (P := del P m) (n := n - 1) (del_up HR.out hm)
  have hnd : ((lst (del D m) (del P m) (n - 1)).map Prod.fst).Nodup := List.pairwise_map.2 (hpw.imp (fun {p q} h e => by omega))
  have HUP : Hid (up (lst (del D m) (del P m) (n - 1)) = lst (del D m) (del P m) (n - 1)) := up_unique (up_perm hnd) (up_up hnd) hpw
  have HMem : Hid (∀ p, p ∈ lst (del D m) (del P m) (n - 1) ↔ p ∈ lst D P n ∧ p.1 ≠ d) := fun p => by rw [← hd]; exact del_mem HR.out hm p
  have HND := hide hnd
  have HK := hide (key64 hw)
  have HLen : Hid (∀ p ∈ lst (del D m) (del P m) (n - 1), 0 < p.2.length ∧ p.2.length ≤ 1048576) := fun p hp => by obtain ⟨i, hi, e⟩ := lst_mem.1 ((HMem.out p).1 hp).1; subst e; exact HR.out.u8len hi
  clear h hP hF hfl hd hpw hnd
  go_enter Try.func27, Try.ntmps27
  go_wp2_with fail
  refine HC.out.mono ?_
  rintro e w1 ⟨rfl, b1⟩
  have X1 := hide ((Box.new w (.int .i64 0) (.slice none 0 0) 27).below b1)
  have hs1 : w.heap.size < w1.heap.size := by have := b1.size; simp at this; omega
  have B1 := hide (below_next (below_alloc w (.cells #[.int .i64 0, .slice none 0 0] 27)) b1)
  clear b1 HC
  go_wp2_with fail
  refine (mapChunks_any a c n D P w1 (HA.out.below B1.out) HR.out).mono ?_
  rintro e w2 ⟨bm, rfl, hbm, hH2, b2⟩
  obtain ⟨a2, c2, hrun, -, -⟩ := hH2.yes HM.out hw 69 Try.underlying69
  have HL := hide (hrun true)
  generalize (P m).length = pl at *
  have hs2 : w1.heap.size ≤ w2.heap.size := b2.size
  obtain ⟨Dt, hown, hback⟩ := (hH2.below (below_alloc _ (.cells #[.int .i64 d, .slice a2 pl c2] 65))).drop (L' := lst (del D m) (del P m) (n - 1)) (List.mem_map_of_mem (f := Prod.fst) HM.out) HMem.out (by rw [lst_length, lst_length]; omega) HND.out
  have HO := hide hown
  have HBk := hide hback
  have X2 := hide ((X1.out.below b2).below (below_alloc _ (.cells #[.int .i64 d, .slice a2 pl c2] 65)))
  have B2 := hide (below_next (below_next B1.out b2) (below_alloc _ (.cells #[.int .i64 d, .slice a2 pl c2] 65)))
  have hs2' : (w2.alloc (.cells #[.int .i64 d, .slice a2 pl c2] 65)).heap.size = w2.heap.size + 1 := by simp
  clear b2 X1 hH2 hrun hown hback B1
  go_wp2_with (first | (at_lookup; refine wpList_look rfl _ _ 69 true rfl _ _ _ rfl rfl HL.out ?_; simp only [chv, if_true]) | (at_delete; refine wpList_delete_own _ rfl _ _ 69 2 rfl 65 law64 Try.underlying69 RV bm n Dt rfl HO.out _ _ rfl HK.out ?_; intro w3 hown3 hturn3; have k3 := Kept.of_grown hturn3.grown; have H3 := hide (HBk.out w3 hown3 k3); have K3 := hide k3; clear hown3 hturn3 k3) | fail)
  have hs3 := K3.out.size
  have X3 := hide (X2.out.kept K3.out (fun e => by omega))
  have B3 := hide (B2.out.trans (K3.out.below B2.out.size (fun q hq e => by omega)))
  clear X2 B2 K3 HO HBk
  refine (rising_any bm _ _ w1.heap.size w3 H3.out (by rw [lst_length]; omega) HLen.out (by omega)).mono ?_
  rintro e w5 ⟨av, cv, rfl, hG, b5⟩
  rw [lst_length] at hG ⊢
  have HG := hide (hG.congr (D' := del D m) (P' := del P m) (fun i hi => by rw [HUP.out]; exact (dg_lst hi).symm) (fun i hi => by rw [HUP.out]; exact (bt_lst hi).symm))
  obtain ⟨⟨q0, q1⟩, q2, q3⟩ := X3.out.below b5
  have B5 := hide (below_next B3.out b5)
  clear hG b5 X3 B3 H3
  go_wp2_with fail
  exact bodyPost_ret (v := .agg #[.int .i64 0, .slice av (n - 1) cv]) (by simp [results, Try.results27, go_sem, q0, q1]) rfl (ResC.box HG.out (by omega) B5.out)

set_option maxRecDepth 100000 in
set_option maxHeartbeats 1600000 in
theorem specDrop_bad (a : Option Addr) (c n : Nat) (D : Nat → Int) (P : Nat → List Int) (d : Int) (w : World) (h : RdC w a D P n) (hn : n ≤ 1048576) (hP : ∀ i, i < n → U8 (P i) ∧ (P i).length ≤ 1048576) (hF : fault D P n ≠ 0) :
    Calls Try.prog 26 #[.slice a n c, .int .i64 d] w (ResC (fault D P n) D P 0 w) := by
  have HC := hide (specFault_any a c n D P (w.alloc (.cells #[.int .i64 0, .slice none 0 0] 27)) (h.below (below_alloc _ _)) hn hP)
  generalize fault D P n = F at *
  have hne : (F != 0) = true := by simpa using hF
  clear h hP hF
  go_enter Try.func26, Try.ntmps26
  go_wp2_with fail
  refine HC.out.mono ?_
  rintro e w1 ⟨rfl, b1⟩
  obtain ⟨⟨q0, q1⟩, q2, q3⟩ := (Box.new w (.int .i64 0) (.slice none 0 0) 27).below b1
  have B1 := hide (below_next (below_alloc w (.cells #[.int .i64 0, .slice none 0 0] 27)) b1)
  clear b1 HC
  go_wp2_with fail
  exact bodyPost_ret (v := .agg #[.int .i64 F, .slice none 0 0]) (by simp [results, Try.results26, go_sem, q0, q1]) rfl (ResC.no ((B1.out.setCell (Nat.le_refl _) _).setCell (Nat.le_refl _) _))

set_option maxRecDepth 100000 in
set_option maxHeartbeats 1600000 in
theorem specDrop_no (a : Option Addr) (c n : Nat) (D : Nat → Int) (P : Nat → List Int) (d : Int) (w : World) (h : RdC w a D P n) (hn : n ≤ 1048576) (hP : ∀ i, i < n → U8 (P i) ∧ (P i).length ≤ 1048576) (hF : fault D P n = 0) (hd : ∀ j, j < n → D j ≠ d) :
    Calls Try.prog 26 #[.slice a n c, .int .i64 d] w (ResC 4 D P 0 w) := by
  have hfl := specFault_any a c n D P (w.alloc (.cells #[.int .i64 0, .slice none 0 0] 27)) (h.below (below_alloc _ _)) hn hP
  rw [hF] at hfl
  have HC := hide hfl
  have HA := hide h
  have HD := hide hd
  clear h hP hF hfl hd
  go_enter Try.func26, Try.ntmps26
  go_wp2_with fail
  refine HC.out.mono ?_
  rintro e w1 ⟨rfl, b1⟩
  obtain ⟨⟨q0, q1⟩, q2, q3⟩ := (Box.new w (.int .i64 0) (.slice none 0 0) 27).below b1
  have B1 := hide (below_next (below_alloc w (.cells #[.int .i64 0, .slice none 0 0] 27)) b1)
  clear b1 HC
  go_wp2_with fail
  refine (l2At_no a c n d D P w1 (HA.out.below B1.out) hn HD.out).mono ?_
  rintro e w2 ⟨rfl, rfl⟩
  go_wp2_with fail
  exact bodyPost_ret (v := .agg #[.int .i64 4, .slice none 0 0]) (by simp [results, Try.results26, go_sem, q0, q1]) rfl (ResC.no ((B1.out.setCell (Nat.le_refl _) _).setCell (Nat.le_refl _) _))

set_option maxRecDepth 100000 in
set_option maxHeartbeats 1600000 in
theorem specDrop_mid (ab ao c n m : Nat) (D : Nat → Int) (P : Nat → List Int) (d : Int) (w : World) (h : RdC w (some ⟨ab, ao, none⟩) D P n) (hcap : n ≤ c) (hc63 : c ≤ 1048576) (hP : ∀ i, i < n → U8 (P i) ∧ (P i).length ≤ 1048576) (hF : fault D P (n) = 0) (hm : m < n) (hd : D m = d) (hcm : ¬ c = m + 1) :
    Calls Try.prog 26 #[.slice (some ⟨ab, ao, none⟩) (n) (c), .int .i64 d] w (ResC 0 (del D m) (del P m) (n - 1) w) := by
  obtain ⟨i1, ki, kz0, kz1, kz2⟩ := info_parts Try.infoCh
  have hn : n ≤ 1048576 := by omega
  have hfl := specFault_any (some ⟨ab, ao, none⟩) (c) (n) D P (w.alloc (.cells #[.int .i64 0, .slice none 0 0] 27)) (h.below (below_alloc _ _)) hn hP
  rw [hF] at hfl
  have HRt := hide (fault_zero hF)
  have hn40 := HRt.out.many
  have HFi := hide (by have := HRt.out.first hm; rw [hd] at this; exact this : ∀ j, j < m → D j ≠ d)
  have HC := hide hfl
  have HA := hide h
  have HD := hide hd
  clear h hP hF hfl hd
  go_enter Try.func26, Try.ntmps26
  go_wp2_with fail
  refine HC.out.mono ?_
  rintro e w1 ⟨rfl, b1⟩
  have X1 := hide ((Box.new w (.int .i64 0) (.slice none 0 0) 27).below b1)
  have hs1 : w.heap.size < w1.heap.size := by have := b1.size; simp at this; omega
  have B1 := hide (below_next (below_alloc w (.cells #[.int .i64 0, .slice none 0 0] 27)) b1)
  clear b1 HC
  go_wp2_with fail
  refine (l2At_yes _ (c) (n) m d D P w1 (HA.out.below B1.out) hn hm HD.out HFi.out).mono ?_
  rintro e w2 ⟨rfl, rfl⟩
  obtain ⟨b', o', A, C, e0, hb0, hc0⟩ := (HA.out.below B1.out) (by omega)
  simp only [Option.some.injEq, Addr.mk.injEq, and_true] at e0
  obtain ⟨rfl, rfl⟩ := e0
  have HC0 := hide hc0
  clear hc0
  have HFl := flat_length (n := m) (k := 2) (F := chCells D P A C) (fun i _ => rfl)
  have HFn := flat_length (n := n) (k := 2) (F := chCells D P A C) (fun i _ => rfl)
  have OWN0 : Hid ((w2.alloc (.cells #[] 65)).drew.ownsRow w2.heap.size 65 2 (.slice (some ⟨w2.heap.size, 0, none⟩) 0 0) 0 []) := World.ownsRow_made w2 #[] 0 (Nat.le_refl _) (Nat.zero_le _) rfl
  have NEWS0 : Hid (∀ j u, (flat m (chCells D P A C))[j]? = some u → (w2.alloc (.cells #[] 65)).drew.cell? ((⟨ab, ao, none⟩ : Addr).add j) = some u) := rdC_news0 (w := (w2.alloc (.cells #[] 65)).drew) (n := n) (fun i hi => ⟨((below_alloc w2 (.cells #[] 65)).cell (p := ⟨ab, ao + i * 2, none⟩) hb0).trans (HC0.out i hi).1, ((below_alloc w2 (.cells #[] 65)).cell (p := ⟨ab, ao + i * 2 + 1, none⟩) hb0).trans (HC0.out i hi).2.1⟩) m (by omega)
  have NEWS2 : Hid (∀ w3 : World, Below w2.heap.size w2 w3 → ∀ j u, ((flat (n) (chCells D P A C)).drop ((m + 1) * 2))[j]? = some u → w3.cell? ((⟨ab, ao + (m + 1) * 2, none⟩ : Addr).add j) = some u) := fun w3 hb3 => rdC_news (n := n) (fun i hi => ⟨(hb3.cell (p := ⟨ab, ao + i * 2, none⟩) hb0).trans (HC0.out i hi).1, (hb3.cell (p := ⟨ab, ao + i * 2 + 1, none⟩) hb0).trans (HC0.out i hi).2.1⟩) (m + 1)
  have hm0 : 0 + m ≤ maxLen := by unfold maxLen; omega
  have hm0' : (0 + m) * 32 ≤ 140737488355328 := by omega
  have hnl : ((flat (n) (chCells D P A C)).drop ((m + 1) * 2)).length = (n - (m + 1)) * 2 := by rw [List.length_drop, HFn]; omega
  have hN' : m + (n - (m + 1)) = n - 1 := by omega
  have hm2 : m + (n - (m + 1)) ≤ maxLen := by unfold maxLen; omega
  have hm2' : (m + (n - (m + 1))) * 32 ≤ 140737488355328 := by omega
  have hk0 : (0 : Int) ≤ (m : Int) := by omega
  have hk0' : (0 : Int) ≤ (m : Int) + 1 := by omega
  have hwr : IntKind.i64.wrap ((m : Int) + 1) = (m : Int) + 1 := by simp [IntKind.wrap, IntKind.signed, IntKind.bits]; omega
  have htn : ((m : Int) + 1).toNat = m + 1 := by omega
  have hI1 : (m : Int) ≤ (c : Int) := by omega
  have hI2 : (m : Int) + 1 ≤ (n : Int) := by omega
  have hI3 : (n : Int) ≤ (c : Int) := by omega
  have hI4 : (m : Int) ≤ (n : Int) := by omega
  have HON := hide (fun u (hu : u ∈ (flat (n) (chCells D P A C)).drop ((m + 1) * 2)) => flat_one (n) D P A C u (List.mem_of_mem_drop hu))
  have HPd : Hid (∀ i, i < n - 1 → 0 < (del P m i).length ∧ (del P m i).length ≤ 1048576) := fun i hi => by
    unfold del
    by_cases e1 : i < m
    · rw [if_pos e1]; exact HRt.out.u8len (by omega)
    · rw [if_neg e1]; exact HRt.out.u8len (by omega)
  go_wp2_with fail
  go_region_held3 (fun _ => True) (trivial)
    ((first
      | (refine step_append_own (by rfl) (.tmp 19) (.tmp 22) 25 (by rfl) w2.heap.size 65 i1 (.agg #[.int .i64 0, .slice none 0 0]) 2 32 Try.underlying25 ki kz0 kz1 kz2 rfl (by decide) (.slice (some ⟨w2.heap.size, 0, none⟩) 0 0) 0 [] (by rfl) OWN0.out ⟨ab, ao, none⟩ m (c) (flat m (chCells D P A C)) (by rfl) HFl NEWS0.out (flat_one _ _ _ _ _) m (by simp) hm0 hm0' (by simp) ?_; intro av cv w3 hown3 hk3; have O3 := hide hown3; have BB3 := hide ((below_alloc w2 (.cells #[] 65)).drew.trans (hk3.below (by simp) (fun q hq hS => by simp [Value.ownBlock] at hS; omega))); clear hown3 hk3)
      | (refine step_append_own (by rfl) (.tmp 23) (.tmp 27) 25 (by rfl) w2.heap.size 65 i1 (.agg #[.int .i64 0, .slice none 0 0]) 2 32 Try.underlying25 ki kz0 kz1 kz2 rfl (by decide) (.slice av m cv) m ([] ++ flat m (chCells D P A C)) (by rfl) O3.out ⟨ab, ao + (m + 1) * 2, none⟩ ((n - (m + 1))) (c - (m + 1)) ((flat (n) (chCells D P A C)).drop ((m + 1) * 2)) (by rfl) hnl (NEWS2.out w3 BB3.out) HON.out (n - 1) hN' hm2 hm2' BB3.out.size ?_; intro av3 cv3 w4 hown4 hk4; have BB4 := hide (BB3.out.trans (hk4.below BB3.out.size (fun q hq hS => by have := (O3.out.lt q hS).1; omega))); have RD4 : Hid (RdC w4 av3 (del D m) (del P m) (n - 1)) := RdC.of_rows (A := del A m) (C := del C m) (by rw [del_flat D P A C hm]; exact hown4) (fun i hi => by unfold del; by_cases e1 : i < m; (rw [if_pos e1, if_pos e1]; exact (HC0.out i (by omega)).2.2.below BB4.out); (rw [if_neg e1, if_neg e1]; exact (HC0.out (i + 1) (by omega)).2.2.below BB4.out)); clear hown4 hk4)
      | (go_at_call 55; refine (l2Copy_any av3 cv3 (n - 1) _ _ w4 RD4.out (by omega) HPd.out).mono ?_; rintro e w5 ⟨av5, cv5, rfl, hG, hb⟩; have HG := hide hG; have hs4 := BB4.out.size; obtain ⟨⟨q0, q1⟩, q2, q3⟩ := (X1.out.below BB4.out).below hb; have B5 := hide (below_next (below_next B1.out BB4.out) hb); clear hG hb)))
  go_wp2_with fail
  exact bodyPost_ret (v := .agg #[.int .i64 0, .slice av5 (n - 1) cv5]) (by simp [results, Try.results26, go_sem, q0, q1]) rfl (ResC.box HG.out (by omega) B5.out)

set_option maxRecDepth 100000 in
set_option maxHeartbeats 1600000 in
theorem specDrop_last (ab ao m : Nat) (D : Nat → Int) (P : Nat → List Int) (d : Int) (w : World) (h : RdC w (some ⟨ab, ao, none⟩) D P (m + 1)) (hcap : m + 1 ≤ m + 1) (hc63 : m + 1 ≤ 1048576) (hP : ∀ i, i < m + 1 → U8 (P i) ∧ (P i).length ≤ 1048576) (hF : fault D P (m + 1) = 0) (hm : m < m + 1) (hd : D m = d) :
    Calls Try.prog 26 #[.slice (some ⟨ab, ao, none⟩) (m + 1) (m + 1), .int .i64 d] w (ResC 0 (del D m) (del P m) (m + 1 - 1) w) := by
  obtain ⟨i1, ki, kz0, kz1, kz2⟩ := info_parts Try.infoCh
  have hn : m + 1 ≤ 1048576 := by omega
  have hfl := specFault_any (some ⟨ab, ao, none⟩) (m + 1) (m + 1) D P (w.alloc (.cells #[.int .i64 0, .slice none 0 0] 27)) (h.below (below_alloc _ _)) hn hP
  rw [hF] at hfl
  have HRt := hide (fault_zero hF)
  have hn40 := HRt.out.many
  have HFi := hide (by have := HRt.out.first hm; rw [hd] at this; exact this : ∀ j, j < m → D j ≠ d)
  have HC := hide hfl
  have HA := hide h
  have HD := hide hd
  clear h hP hF hfl hd
  go_enter Try.func26, Try.ntmps26
  go_wp2_with fail
  refine HC.out.mono ?_
  rintro e w1 ⟨rfl, b1⟩
  have X1 := hide ((Box.new w (.int .i64 0) (.slice none 0 0) 27).below b1)
  have hs1 : w.heap.size < w1.heap.size := by have := b1.size; simp at this; omega
  have B1 := hide (below_next (below_alloc w (.cells #[.int .i64 0, .slice none 0 0] 27)) b1)
  clear b1 HC
  go_wp2_with fail
  refine (l2At_yes _ (m + 1) (m + 1) m d D P w1 (HA.out.below B1.out) hn hm HD.out HFi.out).mono ?_
  rintro e w2 ⟨rfl, rfl⟩
  obtain ⟨b', o', A, C, e0, hb0, hc0⟩ := (HA.out.below B1.out) (by omega)
  simp only [Option.some.injEq, Addr.mk.injEq, and_true] at e0
  obtain ⟨rfl, rfl⟩ := e0
  have HC0 := hide hc0
  clear hc0
  have HFl := flat_length (n := m) (k := 2) (F := chCells D P A C) (fun i _ => rfl)
  have HFn := flat_length (n := m + 1) (k := 2) (F := chCells D P A C) (fun i _ => rfl)
  have OWN0 : Hid ((w2.alloc (.cells #[] 65)).drew.ownsRow w2.heap.size 65 2 (.slice (some ⟨w2.heap.size, 0, none⟩) 0 0) 0 []) := World.ownsRow_made w2 #[] 0 (Nat.le_refl _) (Nat.zero_le _) rfl
  have NEWS0 : Hid (∀ j u, (flat m (chCells D P A C))[j]? = some u → (w2.alloc (.cells #[] 65)).drew.cell? ((⟨ab, ao, none⟩ : Addr).add j) = some u) := rdC_news0 (w := (w2.alloc (.cells #[] 65)).drew) (n := m + 1) (fun i hi => ⟨((below_alloc w2 (.cells #[] 65)).cell (p := ⟨ab, ao + i * 2, none⟩) hb0).trans (HC0.out i hi).1, ((below_alloc w2 (.cells #[] 65)).cell (p := ⟨ab, ao + i * 2 + 1, none⟩) hb0).trans (HC0.out i hi).2.1⟩) m (by omega)
  have NEWS2 : Hid (∀ w3 : World, Below w2.heap.size w2 w3 → ∀ j u, ((flat (m + 1) (chCells D P A C)).drop ((m + 1) * 2))[j]? = some u → w3.cell? ((⟨ab, ao, none⟩ : Addr).add j) = some u) := fun w3 hb3 => fun j u hj => by rw [List.drop_eq_nil_of_le (by rw [HFn]; omega)] at hj; simp at hj
  have hm0 : 0 + m ≤ maxLen := by unfold maxLen; omega
  have hm0' : (0 + m) * 32 ≤ 140737488355328 := by omega
  have hnl : ((flat (m + 1) (chCells D P A C)).drop ((m + 1) * 2)).length = 0 * 2 := by rw [List.length_drop, HFn]; omega
  have hN' : m + 0 = m + 1 - 1 := by omega
  have hm2 : m + 0 ≤ maxLen := by unfold maxLen; omega
  have hm2' : (m + 0) * 32 ≤ 140737488355328 := by omega
  have hk0 : (0 : Int) ≤ (m : Int) := by omega
  have hk0' : (0 : Int) ≤ (m : Int) + 1 := by omega
  have hwr : IntKind.i64.wrap ((m : Int) + 1) = (m : Int) + 1 := by simp [IntKind.wrap, IntKind.signed, IntKind.bits]; omega
  have htn : ((m : Int) + 1).toNat = m + 1 := by omega
  have hI1 : (m : Int) ≤ (m : Int) + 1 := by omega
  have HON := hide (fun u (hu : u ∈ (flat (m + 1) (chCells D P A C)).drop ((m + 1) * 2)) => flat_one (m + 1) D P A C u (List.mem_of_mem_drop hu))
  have HPd : Hid (∀ i, i < m + 1 - 1 → 0 < (del P m i).length ∧ (del P m i).length ≤ 1048576) := fun i hi => by
    unfold del
    by_cases e1 : i < m
    · rw [if_pos e1]; exact HRt.out.u8len (by omega)
    · rw [if_neg e1]; exact HRt.out.u8len (by omega)
  go_wp2_with fail
  go_region_held3 (fun _ => True) (trivial)
    ((first
      | (refine step_append_own (by rfl) (.tmp 19) (.tmp 22) 25 (by rfl) w2.heap.size 65 i1 (.agg #[.int .i64 0, .slice none 0 0]) 2 32 Try.underlying25 ki kz0 kz1 kz2 rfl (by decide) (.slice (some ⟨w2.heap.size, 0, none⟩) 0 0) 0 [] (by rfl) OWN0.out ⟨ab, ao, none⟩ m (m + 1) (flat m (chCells D P A C)) (by rfl) HFl NEWS0.out (flat_one _ _ _ _ _) m (by simp) hm0 hm0' (by simp) ?_; intro av cv w3 hown3 hk3; have O3 := hide hown3; have BB3 := hide ((below_alloc w2 (.cells #[] 65)).drew.trans (hk3.below (by simp) (fun q hq hS => by simp [Value.ownBlock] at hS; omega))); clear hown3 hk3)
      | (refine step_append_own (by rfl) (.tmp 23) (.tmp 27) 25 (by rfl) w2.heap.size 65 i1 (.agg #[.int .i64 0, .slice none 0 0]) 2 32 Try.underlying25 ki kz0 kz1 kz2 rfl (by decide) (.slice av m cv) m ([] ++ flat m (chCells D P A C)) (by rfl) O3.out ⟨ab, ao, none⟩ (0) (0) ((flat (m + 1) (chCells D P A C)).drop ((m + 1) * 2)) (by rfl) hnl (NEWS2.out w3 BB3.out) HON.out (m + 1 - 1) hN' hm2 hm2' BB3.out.size ?_; intro av3 cv3 w4 hown4 hk4; have BB4 := hide (BB3.out.trans (hk4.below BB3.out.size (fun q hq hS => by have := (O3.out.lt q hS).1; omega))); have RD4 : Hid (RdC w4 av3 (del D m) (del P m) (m + 1 - 1)) := RdC.of_rows (A := del A m) (C := del C m) (by rw [del_flat D P A C hm]; exact hown4) (fun i hi => by unfold del; by_cases e1 : i < m; (rw [if_pos e1, if_pos e1]; exact (HC0.out i (by omega)).2.2.below BB4.out); (rw [if_neg e1, if_neg e1]; exact (HC0.out (i + 1) (by omega)).2.2.below BB4.out)); clear hown4 hk4)
      | (go_at_call 55; refine (l2Copy_any av3 cv3 (m + 1 - 1) _ _ w4 RD4.out (by omega) HPd.out).mono ?_; rintro e w5 ⟨av5, cv5, rfl, hG, hb⟩; have HG := hide hG; have hs4 := BB4.out.size; obtain ⟨⟨q0, q1⟩, q2, q3⟩ := (X1.out.below BB4.out).below hb; have B5 := hide (below_next (below_next B1.out BB4.out) hb); clear hG hb)))
  go_wp2_with fail
  exact bodyPost_ret (v := .agg #[.int .i64 0, .slice av5 (m + 1 - 1) cv5]) (by simp [results, Try.results26, go_sem, q0, q1]) rfl (ResC.box HG.out (by omega) B5.out)

end Go.Proofs.Ytdebojhginiihah
