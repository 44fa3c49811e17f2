/-
  A chunk is dropped: contracts of the program's and the model's DropChunk.
-/
import Derived.Test.YtdebojhginiihaaPutC
namespace Go.Proofs.Ytdebojhginiihaa
open Go.RowKit Go.Maps
set_option linter.unusedVariables false
attribute [local go_sem ↓] Go.wp_at_zero Go.wp_at_succ

/-- A chunk is deleted. -/
theorem Holds.drop {w : World} {b N : Nat} {L L' : List Ch} {T : Nat} {d : Int} (h : Holds w b N L T) (hd : d ∈ L.map Prod.fst) (hm : ∀ p, p ∈ L' ↔ p ∈ L ∧ p.1 ≠ d) (hl : L'.length + 1 = L.length) (hn : (L'.map Prod.fst).Nodup) :
    ∃ Dt, w.ownsMap Try.prog 2 RV b N Dt ∧ ∀ w', w'.ownsMap Try.prog 2 RV b N (Dt.del (.int .i64 d)) → Kept (fun x => x = b) w w' → Holds w' b N L' T := by
  obtain ⟨Dt, A, C, h1, h2, h3, h4, h5⟩ := h
  refine ⟨Dt, h1, fun w' ho hk => ?_⟩
  have hkeep : ∀ {x : Option Addr} {ys : List Int}, Reads .u8 w x ys → Reads .u8 w' x ys := fun hx => hx.kept hk (fun hz y hy e => Reads.far h1 hx hz y hy e)
  refine ⟨_, A, C, ho, fun k => ?_, fun p hp => ?_, ?_, hn⟩
  · by_cases e : k = d
    · subst e
      rw [has_del_same]
      symm
      rw [decide_eq_false_iff_not]
      intro hk'
      obtain ⟨p, hp, e⟩ := List.mem_map.1 hk'
      exact ((hm p).1 hp).2 e
    · rw [has_del_other (by simpa using e), h2 k, decide_eq_decide]
      constructor
      · intro hk'
        obtain ⟨p, hp, rfl⟩ := List.mem_map.1 hk'
        exact List.mem_map_of_mem ((hm p).2 ⟨hp, e⟩)
      · intro hk'
        obtain ⟨p, hp, rfl⟩ := List.mem_map.1 hk'
        exact List.mem_map_of_mem ((hm p).1 hp).1
  · obtain ⟨hp1, hp2⟩ := (hm p).1 hp
    exact ⟨fun z => by rw [atKey_del_other (by simpa using hp2)]; exact (h3 p hp1).1 z, hkeep (h3 p hp1).2.1, (h3 p hp1).2.2⟩
  · have := size_del (k := .int .i64 d) (h1.tidy law64)
    rw [h2 d, decide_eq_true hd, h4] at this
    simp at this
    omega

theorem del_up {D : Nat → Int} {P : Nat → List Int} {n m : Nat} (hR : Right D P n) (hm : m < n) : ∀ i j, i < j → j < n - 1 → del D m i < del D m j := by
  intro i j hij hj
  unfold del
  by_cases h1 : i < m
  · rw [if_pos h1]
    by_cases h2 : j < m
    · rw [if_pos h2]; exact hR.inj i j hij (by omega)
    · rw [if_neg h2]; exact hR.inj i (j + 1) (by omega) (by omega)
  · rw [if_neg h1, if_neg (by omega)]; exact hR.inj (i + 1) (j + 1) (by omega) (by omega)
theorem del_mem {D : Nat → Int} {P : Nat → List Int} {n m : Nat} (hR : Right D P n) (hm : m < n) (p : Ch) : p ∈ lst (del D m) (del P m) (n - 1) ↔ p ∈ lst D P n ∧ p.1 ≠ D m := by
  rw [lst_mem, lst_mem]
  constructor
  · rintro ⟨i, hi, rfl⟩
    unfold del
    by_cases h1 : i < m
    · simp only [if_pos h1]
      refine ⟨⟨i, by omega, rfl⟩, ?_⟩
      have := hR.inj i m h1 hm
      simp; omega
    · simp only [if_neg h1]
      refine ⟨⟨i + 1, by omega, rfl⟩, ?_⟩
      have := hR.inj m (i + 1) (by omega) (by omega)
      simp; omega
  · rintro ⟨⟨i, hi, rfl⟩, hne⟩
    have him : i ≠ m := fun e => hne (by rw [e])
    by_cases h1 : i < m
    · exact ⟨i, by omega, by simp [del, h1]⟩
    · refine ⟨i - 1, by omega, ?_⟩
      have h2 : ¬ i - 1 < m := by omega
      have h3 : i - 1 + 1 = i := by omega
      simp [del, h2, h3]

set_option maxRecDepth 100000 in
set_option maxHeartbeats 800000 in
theorem implDrop_bad (a : Option Addr) (c n : Nat) (D : Nat → Int) (P : Nat → List Int) (d : Int) (w : World) (h : RdC w a D P n) (hn : n ≤ 1048576) (hP : ∀ i, i < n → U8 (P i) ∧ (P i).length ≤ 1048576) (hF : fault D P n ≠ 0) :
    Calls Try.prog 21 #[.slice a n c, .int .i64 d] w (ResC (fault D P n) D P 0 w) := by
  have HC := hide (implFault_any a c n D P (w.alloc (.cells #[.int .i64 0, .slice none 0 0] 45)) (h.below (below_alloc _ _)) hn hP)
  generalize fault D P n = F at *
  have hne : (F != 0) = true := by simpa using hF
  clear h hP hF
  go_enter Try.func21, Try.ntmps21
  go_wp2_with fail
  refine HC.out.mono ?_
  rintro e w1 ⟨rfl, b1⟩
  obtain ⟨⟨q0, q1⟩, q2, q3⟩ := (Box.new w (.int .i64 0) (.slice none 0 0) 45).below b1
  have B1 := hide (below_next (below_alloc w (.cells #[.int .i64 0, .slice none 0 0] 45)) b1)
  clear b1 HC
  go_wp2_with fail
  exact bodyPost_ret (v := .agg #[.int .i64 F, .slice none 0 0]) (by simp [results, Try.results21, go_sem, q0, q1]) rfl (ResC.no ((B1.out.setCell (Nat.le_refl _) _).setCell (Nat.le_refl _) _))

set_option maxRecDepth 100000 in
set_option maxHeartbeats 800000 in
theorem implDrop_no (a : Option Addr) (c n : Nat) (D : Nat → Int) (P : Nat → List Int) (d : Int) (w : World) (h : RdC w a D P n) (hn : n ≤ 1048576) (hP : ∀ i, i < n → U8 (P i) ∧ (P i).length ≤ 1048576) (hF : fault D P n = 0) (hw : (Lit.int .i64 d).wf = true) (hd : ∀ j, j < n → D j ≠ d) :
    Calls Try.prog 21 #[.slice a n c, .int .i64 d] w (ResC 4 D P 0 w) := by
  have hfl := implFault_any a c n D P (w.alloc (.cells #[.int .i64 0, .slice none 0 0] 45)) (h.below (below_alloc _ _)) hn hP
  rw [hF] at hfl
  have HR := hide (fault_zero hF)
  have HC := hide hfl
  have HA := hide h
  have HD : Hid (d ∉ (lst D P n).map Prod.fst) := by intro hm; obtain ⟨i, hi, e⟩ := lst_key.1 hm; exact hd i hi e
  clear h hP hF hfl hd
  go_enter Try.func21, Try.ntmps21
  go_wp2_with fail
  refine HC.out.mono ?_
  rintro e w1 ⟨rfl, b1⟩
  have X1 := hide ((Box.new w (.int .i64 0) (.slice none 0 0) 45).below b1)
  have B1 := hide (below_next (below_alloc w (.cells #[.int .i64 0, .slice none 0 0] 45)) b1)
  clear b1 HC
  go_wp2_with fail
  refine (mapChunks_any a c n D P w1 (HA.out.below B1.out) HR.out).mono ?_
  rintro e w2 ⟨bm, rfl, hbm, H2, b2⟩
  have HL := hide (H2.no HD.out hw 74 Try.underlying74)
  have X2 := hide ((X1.out.below b2).below (below_alloc _ (.cells #[.int .i64 0, .slice none 0 0] 53)))
  have B2 := hide (below_next (below_next B1.out b2) (below_alloc _ (.cells #[.int .i64 0, .slice none 0 0] 53)))
  obtain ⟨⟨q0, q1⟩, q2, q3⟩ := X2.out
  clear b2 X1 H2
  go_wp2_with (first | (at_lookup; refine wpList_look rfl _ _ 74 true rfl _ _ _ rfl rfl HL.out ?_) | fail)
  exact bodyPost_ret (v := .agg #[.int .i64 4, .slice none 0 0]) (by simp [results, Try.results21, go_sem, q0, q1]) rfl (ResC.no ((B2.out.setCell (Nat.le_refl _) _).setCell (Nat.le_refl _) _))

set_option maxRecDepth 100000 in
set_option maxHeartbeats 1600000 in
theorem implDrop_yes (a : Option Addr) (c n m : Nat) (D : Nat → Int) (P : Nat → List Int) (d : Int) (w : World) (h : RdC w a D P n) (hn : n ≤ 1048576) (hP : ∀ i, i < n → U8 (P i) ∧ (P i).length ≤ 1048576) (hF : fault D P n = 0) (hw : (Lit.int .i64 d).wf = true) (hm : m < n) (hd : D m = d) :
    Calls Try.prog 21 #[.slice a n c, .int .i64 d] w (ResC 0 (del D m) (del P m) (n - 1) w) := by
  have hfl := implFault_any a c n D P (w.alloc (.cells #[.int .i64 0, .slice none 0 0] 45)) (h.below (below_alloc _ _)) hn hP
  rw [hF] at hfl
  have HR := hide (fault_zero hF)
  have hn40 := HR.out.many
  have HC := hide hfl
  have HA := hide h
  have HM : Hid ((d, P m) ∈ lst D P n) := lst_mem.2 ⟨m, hm, by rw [hd]⟩
  have hpw := pairwise_lst (D := del D m) (P := del P m) (n := n - 1) (del_up HR.out hm)
  have hnd : ((lst (del D m) (del P m) (n - 1)).map Prod.fst).Nodup := List.pairwise_map.2 (hpw.imp (fun {p q} h e => by omega))
  have HUP : Hid (up (lst (del D m) (del P m) (n - 1)) = lst (del D m) (del P m) (n - 1)) := up_unique (up_perm hnd) (up_up hnd) hpw
  have HMem : Hid (∀ p, p ∈ lst (del D m) (del P m) (n - 1) ↔ p ∈ lst D P n ∧ p.1 ≠ d) := fun p => by rw [← hd]; exact del_mem HR.out hm p
  have HND := hide hnd
  have HK := hide (key64 hw)
  have HLen : Hid (∀ p ∈ lst (del D m) (del P m) (n - 1), 0 < p.2.length ∧ p.2.length ≤ 1048576) := fun p hp => by obtain ⟨i, hi, e⟩ := lst_mem.1 ((HMem.out p).1 hp).1; subst e; exact HR.out.u8len hi
  clear h hP hF hfl hd hpw hnd
  go_enter Try.func21, Try.ntmps21
  go_wp2_with fail
  refine HC.out.mono ?_
  rintro e w1 ⟨rfl, b1⟩
  have X1 := hide ((Box.new w (.int .i64 0) (.slice none 0 0) 45).below b1)
  have hs1 : w.heap.size < w1.heap.size := by have := b1.size; simp at this; omega
  have B1 := hide (below_next (below_alloc w (.cells #[.int .i64 0, .slice none 0 0] 45)) b1)
  clear b1 HC
  go_wp2_with fail
  refine (mapChunks_any a c n D P w1 (HA.out.below B1.out) HR.out).mono ?_
  rintro e w2 ⟨bm, rfl, hbm, hH2, b2⟩
  obtain ⟨a2, c2, hrun, -, -⟩ := hH2.yes HM.out hw 74 Try.underlying74
  have HL := hide (hrun true)
  generalize (P m).length = pl at *
  have hs2 : w1.heap.size ≤ w2.heap.size := b2.size
  obtain ⟨Dt, hown, hback⟩ := (hH2.below (below_alloc _ (.cells #[.int .i64 d, .slice a2 pl c2] 53))).drop (L' := lst (del D m) (del P m) (n - 1)) (List.mem_map_of_mem (f := Prod.fst) HM.out) HMem.out (by rw [lst_length, lst_length]; omega) HND.out
  have HO := hide hown
  have HBk := hide hback
  have X2 := hide ((X1.out.below b2).below (below_alloc _ (.cells #[.int .i64 d, .slice a2 pl c2] 53)))
  have B2 := hide (below_next (below_next B1.out b2) (below_alloc _ (.cells #[.int .i64 d, .slice a2 pl c2] 53)))
  have hs2' : (w2.alloc (.cells #[.int .i64 d, .slice a2 pl c2] 53)).heap.size = w2.heap.size + 1 := by simp
  clear b2 X1 hH2 hrun hown hback B1
  go_wp2_with (first | (at_lookup; refine wpList_look rfl _ _ 74 true rfl _ _ _ rfl rfl HL.out ?_; simp only [chv, if_true]) | (at_delete; refine wpList_delete_own _ rfl _ _ 74 2 rfl 53 law64 Try.underlying74 RV bm n Dt rfl HO.out _ _ rfl HK.out ?_; intro w3 hown3 hturn3; have k3 := Kept.of_grown hturn3.grown; have H3 := hide (HBk.out w3 hown3 k3); have K3 := hide k3; clear hown3 hturn3 k3) | fail)
  have hs3 := K3.out.size
  have X3 := hide (X2.out.kept K3.out (fun e => by omega))
  have B3 := hide (B2.out.trans (K3.out.below B2.out.size (fun q hq e => by omega)))
  clear X2 B2 K3 HO HBk
  refine (rising_any bm _ _ w1.heap.size w3 H3.out (by rw [lst_length]; omega) HLen.out (by omega)).mono ?_
  rintro e w5 ⟨av, cv, rfl, hG, b5⟩
  rw [lst_length] at hG ⊢
  have HG := hide (hG.congr (D' := del D m) (P' := del P m) (fun i hi => by rw [HUP.out]; exact (dg_lst hi).symm) (fun i hi => by rw [HUP.out]; exact (bt_lst hi).symm))
  obtain ⟨⟨q0, q1⟩, q2, q3⟩ := X3.out.below b5
  have B5 := hide (below_next B3.out b5)
  clear hG b5 X3 B3 H3
  go_wp2_with fail
  exact bodyPost_ret (v := .agg #[.int .i64 0, .slice av (n - 1) cv]) (by simp [results, Try.results21, go_sem, q0, q1]) rfl (ResC.box HG.out (by omega) B5.out)


end Go.Proofs.Ytdebojhginiihaa
