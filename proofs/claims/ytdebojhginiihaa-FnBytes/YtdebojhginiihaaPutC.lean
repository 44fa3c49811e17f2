/-
  A chunk is put: contracts of the program's and the model's PutChunk.
-/
import Derived.Test.YtdebojhginiihaaPut
namespace Go.Proofs.Ytdebojhginiihaa
open Go.RowKit Go.Maps
set_option linter.unusedVariables false

set_option maxRecDepth 100000 in
set_option maxHeartbeats 1600000 in
theorem put_there (b N : Nat) (L : List Ch) (T : Nat) (d : Int) (a : Option Addr) (n c : Nat) (w : World) (h : Holds w b N L T) (hw : (Lit.int .i64 d).wf = true) (hd : d ∈ L.map Prod.fst) :
    Calls Try.prog 42 #[.map (some b), .agg #[.int .i64 d, .slice a n c]] w fun e w' => e = .returned (.int .i64 0) ∧ Holds w' b N L T ∧ Kept (fun x => x = b) w w' := by
  obtain ⟨p, hp, hpd⟩ := List.mem_map.1 hd
  have hH1 := h.below (below_alloc w (.cells #[.int .i64 d, .slice a n c] 53))
  obtain ⟨a3, c3, hrun, _, _⟩ := hH1.yes (zs := p.2) (by rw [← hpd]; exact hp) hw 74 Try.underlying74
  have HL := hide (hrun true)
  generalize p.2.length = pl at *
  have HH := hide (hH1.below (below_alloc _ (.cells #[.int .i64 d, .slice a3 pl c3] 53)))
  have HB := hide (below_next (below_alloc w (.cells #[.int .i64 d, .slice a n c] 53)) (below_alloc _ (.cells #[.int .i64 d, .slice a3 pl c3] 53)))
  clear h hH1 hrun hd hp hpd
  go_enter Try.func42, Try.ntmps42
  go_wp2_with (first | (at_lookup; refine wpList_look rfl _ _ 74 true rfl _ _ _ rfl rfl HL.out ?_; simp only [chv, if_true]) | fail)
  go_ret
  exact ⟨rfl, HH.out, Kept.of_below HB.out⟩

set_option maxRecDepth 100000 in
set_option maxHeartbeats 1600000 in
theorem put_full (b N : Nat) (L : List Ch) (T : Nat) (d : Int) (a : Option Addr) (n c : Nat) (w : World) (h : Holds w b N L T) (hw : (Lit.int .i64 d).wf = true) (hd : d ∉ L.map Prod.fst) (hf : 40 ≤ L.length) :
    Calls Try.prog 42 #[.map (some b), .agg #[.int .i64 d, .slice a n c]] w fun e w' => e = .returned (.int .i64 2) ∧ Holds w' b N L T ∧ Kept (fun x => x = b) w w' := by
  have hH1 := h.below (below_alloc w (.cells #[.int .i64 d, .slice a n c] 53))
  have HL := hide (hH1.no hd hw 74 Try.underlying74)
  have HH := hide (hH1.below (below_alloc _ (.cells #[.int .i64 0, .slice none 0 0] 53)))
  obtain ⟨Dt, hown, hsize, -, -⟩ := HH.out.keys
  have HO := hide hown
  have HSz := hide hsize
  have hf' : (40 : Int) ≤ (L.length : Int) := by omega
  have HB := hide (below_next (below_alloc w (.cells #[.int .i64 d, .slice a n c] 53)) (below_alloc _ (.cells #[.int .i64 0, .slice none 0 0] 53)))
  clear h hH1 hd hown hsize
  go_enter Try.func42, Try.ntmps42
  go_wp2_with (first | (at_lookup; refine wpList_look rfl _ _ 74 true rfl _ _ _ rfl rfl HL.out ?_) | (at_len; refine wpList_len_own _ rfl _ 74 rfl 2 53 Try.underlying74 RV b N Dt rfl HO.out ?_; rw [HSz.out]) | fail)
  go_ret
  exact ⟨rfl, HH.out, Kept.of_below HB.out⟩

set_option maxRecDepth 100000 in
set_option maxHeartbeats 1600000 in
theorem put_new (b N : Nat) (L : List Ch) (T : Nat) (d : Int) (a : Option Addr) (c : Nat) (zs : List Int) (w : World) (h : Holds w b N L T) (hw : (Lit.int .i64 d).wf = true) (hd : d ∉ L.map Prod.fst) (hf : L.length < 40) (hN : N ≤ 1048576) (hr : Reads .u8 w a zs) (hT : ∀ x, a = some x → x.block < T) :
    Calls Try.prog 42 #[.map (some b), .agg #[.int .i64 d, .slice a zs.length c]] w fun e w' => e = .returned (.int .i64 0) ∧ Holds w' b (N + 1) (L ++ [(d, zs)]) T ∧ Kept (fun x => x = b) w w' := by
  have hH1 := h.below (below_alloc w (.cells #[.int .i64 d, .slice a zs.length c] 53))
  have HL := hide (hH1.no hd hw 74 Try.underlying74)
  have HH := hide (hH1.below (below_alloc _ (.cells #[.int .i64 0, .slice none 0 0] 53)))
  obtain ⟨Dt, hown, hsize, -, -⟩ := HH.out.keys
  have HO := hide hown
  have HSz := hide hsize
  have hf' : ¬ (40 : Int) ≤ (L.length : Int) := by omega
  have hB := below_next (below_alloc w (.cells #[.int .i64 d, .slice a zs.length c] 53)) (below_alloc _ (.cells #[.int .i64 0, .slice none 0 0] 53))
  obtain ⟨Dt2, hown2, hput⟩ := HH.out.put (c := c) hd (hr.below hB) hT
  have HB := hide hB
  have HO2 := hide hown2
  have HPt := hide hput
  have HK := hide (key64 hw)
  clear h hH1 hd hown hsize hown2 hput hB hr hT
  go_enter Try.func42, Try.ntmps42
  go_wp2_with (first | (at_lookup; refine wpList_look rfl _ _ 74 true rfl _ _ _ rfl rfl HL.out ?_) | (at_len; refine wpList_len_own _ rfl _ 74 rfl 2 53 Try.underlying74 RV b N Dt rfl HO.out ?_; rw [HSz.out]) | (at_mapUpdate; refine wpList_mapUpdate_own _ rfl _ _ _ 74 rfl 2 53 law64 Try.underlying74 RV b N Dt2 rfl HO2.out (by unfold maxLen; omega) _ _ _ rfl rfl HK.out (.held (chv d a zs.length c)) [] rfl ?_; intro w1 hown1 hgrow1; have HH1 := hide (HPt.out w1 hown1 hgrow1); have HG1 := hide hgrow1; clear hown1 hgrow1) | fail)
  go_ret
  exact ⟨rfl, HH1.out, (Kept.of_below HB.out).trans (Kept.of_grown HG1.out)⟩

/-- A result of chunks: a code and chunks of its own. -/
def ResC (q : Int) (D : Nat → Int) (P : Nat → List Int) (n : Nat) (w : World) (e : Ending) (w' : World) : Prop :=
  ∃ a' c', e = .returned (.agg #[.int .i64 q, .slice a' n c']) ∧ GC w.heap.size w'.heap.size w' (.slice a' n c') D P n ∧ Below w.heap.size w w'
theorem ResC.no {q : Int} {D : Nat → Int} {P : Nat → List Int} {w w' : World} (h : Below w.heap.size w w') : ResC q D P 0 w (.returned (.agg #[.int .i64 q, .slice none 0 0])) w' := ⟨none, 0, rfl, GC.nil _ _ _ _ _, h⟩
/-- A result is laid into its box. -/
theorem ResC.box {w w2 : World} {B : Nat} {q : Int} {D : Nat → Int} {P : Nat → List Int} {n : Nat} {av : Option Addr} {cv : Nat} {u v : Value} (hG : GC B w2.heap.size w2 (.slice av n cv) D P n) (hB : w.heap.size < B) (hb : Below w.heap.size w w2) :
    ResC q D P n w (.returned (.agg #[.int .i64 q, .slice av n cv])) ((w2.setCell ⟨w.heap.size, 0, none⟩ u).setCell ⟨w.heap.size, 1, none⟩ v) := by
  have hk := Kept.two w2 w.heap.size 0 1 u v
  refine ⟨av, cv, rfl, ((hG.kept hk (fun x h1 _ e => by omega)).mono (by omega)).wide hk.size, (hb.setCell (Nat.le_refl _) _).setCell (Nat.le_refl _) _⟩

theorem pairwise_lst {D : Nat → Int} {P : Nat → List Int} {n : Nat} (h : ∀ i j, i < j → j < n → D i < D j) : (lst D P n).Pairwise (fun p q => p.1 < q.1) := by
  unfold lst
  refine List.pairwise_map.2 ((List.pairwise_lt_range (n := n)).imp_of_mem fun {i j} hi hj hij => h i j hij (List.mem_range.1 hj))
theorem lst_split (D : Nat → Int) (P : Nat → List Int) {n m : Nat} (hm : m ≤ n) : lst D P n = lst D P m ++ (List.range (n - m)).map fun i => (D (m + i), P (m + i)) := by
  unfold lst
  have : n = m + (n - m) := by omega
  rw [this, List.range_add, List.map_append, List.map_map]
  have e : m + (n - m) - m = n - m := by omega
  rw [e]
  rfl
theorem lst_ins (D : Nat → Int) (P : Nat → List Int) {n m : Nat} (hm : m ≤ n) (d : Int) (zs : List Int) : lst (ins D m d) (ins P m zs) (n + 1) = lst D P m ++ (d, zs) :: (List.range (n - m)).map fun i => (D (m + i), P (m + i)) := by
  rw [lst_split (ins D m d) (ins P m zs) (m := m + 1) (by omega), lst_succ]
  have e1 : lst (ins D m d) (ins P m zs) m = lst D P m := by
    unfold lst
    apply List.map_congr_left
    intro i hi
    have := List.mem_range.1 hi
    simp [ins, this]
  have e2 : n + 1 - (m + 1) = n - m := by omega
  rw [e1, e2, List.append_assoc]
  congr 1
  rw [List.singleton_append]
  congr 1
  · simp [ins]
  · apply List.map_congr_left
    intro i hi
    have h1 : ¬ m + 1 + i < m := by omega
    have h2 : ¬ m + 1 + i = m := by omega
    have h3 : m + 1 + i - 1 = m + i := by omega
    simp [ins, h1, h2, h3]
theorem ins_perm (D : Nat → Int) (P : Nat → List Int) {n m : Nat} (hm : m ≤ n) (d : Int) (zs : List Int) : (lst (ins D m d) (ins P m zs) (n + 1)).Perm (lst D P n ++ [(d, zs)]) := by
  rw [lst_ins D P hm, lst_split D P hm]
  refine List.Perm.trans List.perm_middle ?_
  exact (List.perm_append_singleton _ _).symm
theorem ins_up {D : Nat → Int} {P : Nat → List Int} {n m : Nat} (hR : Right D P n) (hm : m ≤ n) {d : Int} (hlow : ∀ i, i < m → D i < d) (hhigh : m < n → ¬ D m < d) (hd : ∀ i, i < n → D i ≠ d) : ∀ i j, i < j → j < n + 1 → ins D m d i < ins D m d j := by
  have hup : ∀ i, m ≤ i → i < n → d < D i := fun i h1 h2 => by
    have h3 := hhigh (by omega)
    have h4 := hd m (by omega)
    by_cases e : i = m
    · subst e; omega
    · have := hR.inj m i (by omega) h2
      omega
  intro i j hij hj
  unfold ins
  by_cases h1 : i < m
  · rw [if_pos h1]
    by_cases h2 : j < m
    · rw [if_pos h2]; exact hR.inj i j hij (by omega)
    · rw [if_neg h2]
      by_cases h3 : j = m
      · rw [if_pos h3]; exact hlow i h1
      · rw [if_neg h3]; exact hR.inj i (j - 1) (by omega) (by omega)
  · rw [if_neg h1]
    have h2 : ¬ j < m := by omega
    have h3 : ¬ j = m := by omega
    rw [if_neg h2, if_neg h3]
    by_cases h4 : i = m
    · rw [if_pos h4]; exact hup (j - 1) (by omega) (by omega)
    · rw [if_neg h4]; exact hR.inj (i - 1) (j - 1) (by omega) (by omega)
theorem dg_lst {D : Nat → Int} {P : Nat → List Int} {n i : Nat} (hi : i < n) : dg (lst D P n) i = D i := by simp [dg, lst, List.getD_eq_getElem?_getD, hi]
theorem bt_lst {D : Nat → Int} {P : Nat → List Int} {n i : Nat} (hi : i < n) : bt (lst D P n) i = P i := by simp [bt, lst, List.getD_eq_getElem?_getD, hi]
/-- The place of a digest among those of a list. -/
theorem place {D : Nat → Int} (d : Int) : ∀ n : Nat, ∃ m, m ≤ n ∧ (∀ i, i < m → D i < d) ∧ (m < n → ¬ D m < d)
  | 0 => ⟨0, Nat.le_refl _, fun i hi => absurd hi (by omega), fun h => absurd h (by omega)⟩
  | n + 1 => by
    obtain ⟨m, h1, h2, h3⟩ := place (D := D) d n
    by_cases e : m < n
    · exact ⟨m, by omega, h2, fun _ => h3 e⟩
    · have hmn : m = n := by omega
      subst hmn
      by_cases hp : D m < d
      · exact ⟨m + 1, Nat.le_refl _, fun j hj => by
          by_cases ej : j = m
          · subst ej; exact hp
          · exact h2 j (by omega), fun h => absurd h (by omega)⟩
      · exact ⟨m, by omega, h2, fun _ => hp⟩

set_option maxRecDepth 100000 in
set_option maxHeartbeats 800000 in
theorem implPut_bad (a : Option Addr) (c n : Nat) (D : Nat → Int) (P : Nat → List Int) (d : Int) (a2 : Option Addr) (c2 : Nat) (zs : List Int) (w : World) (h : RdC w a D P n) (hn : n ≤ 1048576) (hP : ∀ i, i < n → U8 (P i) ∧ (P i).length ≤ 1048576) (hF : fault D P n ≠ 0) :
    Calls Try.prog 18 #[.slice a n c, .int .i64 d, .slice a2 zs.length c2] w (ResC (fault D P n) D P 0 w) := by
  have HC := hide (implFault_any a c n D P (w.alloc (.cells #[.int .i64 0, .slice none 0 0] 45)) (h.below (below_alloc _ _)) hn hP)
  generalize fault D P n = F at *
  have hne : (F != 0) = true := by simpa using hF
  clear h hP hF
  go_enter Try.func18, Try.ntmps18
  go_wp2_with fail
  refine HC.out.mono ?_
  rintro e w1 ⟨rfl, b1⟩
  obtain ⟨⟨q0, q1⟩, q2, q3⟩ := (Box.new w (.int .i64 0) (.slice none 0 0) 45).below b1
  have B1 := hide (below_next (below_alloc w (.cells #[.int .i64 0, .slice none 0 0] 45)) b1)
  clear b1 HC
  go_wp2_with fail
  exact bodyPost_ret (v := .agg #[.int .i64 F, .slice none 0 0]) (by simp [results, Try.results18, go_sem, q0, q1]) rfl (ResC.no ((B1.out.setCell (Nat.le_refl _) _).setCell (Nat.le_refl _) _))

set_option maxRecDepth 100000 in
set_option maxHeartbeats 800000 in
theorem implPut_one (a : Option Addr) (c n : Nat) (D : Nat → Int) (P : Nat → List Int) (d : Int) (a2 : Option Addr) (c2 : Nat) (zs : List Int) (w : World) (h : RdC w a D P n) (hn : n ≤ 1048576) (hP : ∀ i, i < n → U8 (P i) ∧ (P i).length ≤ 1048576) (hF : fault D P n = 0) (h2 : Reads .u8 w a2 zs) (hu : U8 zs) (hl : zs.length ≤ 1048576) (hO : oneFault d zs ≠ 0) :
    Calls Try.prog 18 #[.slice a n c, .int .i64 d, .slice a2 zs.length c2] w (ResC (oneFault d zs) D P 0 w) := by
  have hfl := implFault_any a c n D P (w.alloc (.cells #[.int .i64 0, .slice none 0 0] 45)) (h.below (below_alloc _ _)) hn hP
  rw [hF] at hfl
  have HC := hide hfl
  have HR := hide h2
  have HU := hide hu
  have HOne := hide (fun u (hr : Reads .u8 u a2 zs) => implOne_any d a2 c2 zs u hr HU.out hl)
  generalize oneFault d zs = F at *
  have hne : (F != 0) = true := by simpa using hO
  clear h hP hF hfl h2 hu hO
  go_enter Try.func18, Try.ntmps18
  go_wp2_with fail
  refine HC.out.mono ?_
  rintro e w1 ⟨rfl, b1⟩
  have X1 := hide (((Box.new w (.int .i64 0) (.slice none 0 0) 45).below b1).below (below_alloc _ (.cells #[.int .i64 d, .slice a2 zs.length c2] 53)))
  have B1 := hide (below_next (below_next (below_alloc w (.cells #[.int .i64 0, .slice none 0 0] 45)) b1) (below_alloc _ (.cells #[.int .i64 d, .slice a2 zs.length c2] 53)))
  clear b1 HC
  go_wp2_with fail
  refine (HOne.out _ (HR.out.below B1.out)).mono ?_
  rintro e w2 ⟨rfl, b2⟩
  obtain ⟨⟨q0, q1⟩, q2, q3⟩ := X1.out.below b2
  have B2 := hide (below_next B1.out b2)
  clear b2 X1
  go_wp2_with fail
  exact bodyPost_ret (v := .agg #[.int .i64 F, .slice none 0 0]) (by simp [results, Try.results18, go_sem, q0, q1]) rfl (ResC.no ((B2.out.setCell (Nat.le_refl _) _).setCell (Nat.le_refl _) _))

set_option maxRecDepth 100000 in
set_option maxHeartbeats 1600000 in
theorem implPut_there (a : Option Addr) (c n : Nat) (D : Nat → Int) (P : Nat → List Int) (d : Int) (a2 : Option Addr) (c2 : Nat) (zs : List Int) (w : World) (h : RdC w a D P n) (hn : n ≤ 1048576) (hP : ∀ i, i < n → U8 (P i) ∧ (P i).length ≤ 1048576) (hF : fault D P n = 0) (h2 : Reads .u8 w a2 zs) (hu : U8 zs) (hl : zs.length ≤ 1048576) (hO : oneFault d zs = 0) (hd : ∃ i, i < n ∧ D i = d) :
    Calls Try.prog 18 #[.slice a n c, .int .i64 d, .slice a2 zs.length c2] w (ResC 0 D P n w) := by
  have hfl := implFault_any a c n D P (w.alloc (.cells #[.int .i64 0, .slice none 0 0] 45)) (h.below (below_alloc _ _)) hn hP
  rw [hF] at hfl
  have HRt := hide (fault_zero hF)
  have hn40 := HRt.out.many
  obtain ⟨hrg, hlz, -⟩ := oneFault_zero hO
  have hwf := i64_wf hrg.1 hrg.2
  have hzne : zs ≠ [] := by intro e; subst e; simp at hlz
  have HC := hide hfl
  have HA := hide h
  have HR := hide h2
  have HLt := hide (h2.lt hzne)
  have hon := fun u (hr : Reads .u8 u a2 zs) => implOne_any d a2 c2 zs u hr hu hl
  rw [hO] at hon
  have HOne := hide hon
  have HLen : Hid (∀ p ∈ lst D P n, 0 < p.2.length ∧ p.2.length ≤ 1048576) := fun p hp => by obtain ⟨i, hi, e⟩ := lst_mem.1 hp; subst e; exact HRt.out.u8len hi
  have HM : Hid (d ∈ (lst D P n).map Prod.fst) := lst_key.2 hd
  have hpw := pairwise_lst (D := D) (P := P) (n := n) HRt.out.inj
  have hnd : ((lst D P n).map Prod.fst).Nodup := List.pairwise_map.2 (hpw.imp (fun {p q} h e => by omega))
  have HUP : Hid (up (lst D P n) = lst D P n) := up_unique (up_perm hnd) (up_up hnd) hpw
  clear hpw hnd hd
  clear h hP hF hfl h2 hu hO hon
  go_enter Try.func18, Try.ntmps18
  go_wp2_with fail
  refine HC.out.mono ?_
  rintro e w1 ⟨rfl, b1⟩
  have hs1 : w.heap.size < w1.heap.size := by have := b1.size; simp at this; omega
  have X1 := hide (((Box.new w (.int .i64 0) (.slice none 0 0) 45).below b1).below (below_alloc _ (.cells #[.int .i64 d, .slice a2 zs.length c2] 53)))
  have T1 := hide (Two.new w1 (.int .i64 d) (.slice a2 zs.length c2) 53)
  have B1 := hide (below_next (below_next (below_alloc w (.cells #[.int .i64 0, .slice none 0 0] 45)) b1) (below_alloc _ (.cells #[.int .i64 d, .slice a2 zs.length c2] 53)))
  clear b1 HC
  go_wp2_with fail
  refine (HOne.out _ (HR.out.below B1.out)).mono ?_
  rintro e w2 ⟨rfl, b2⟩
  have hs2 : w1.heap.size < w2.heap.size := by have := b2.size; simp at this; omega
  have X2 := hide (X1.out.below b2)
  have T2 := hide (T1.out.below b2)
  have B2 := hide (below_next B1.out b2)
  clear b2 X1 T1 B1
  go_wp2_with fail
  refine (mapChunks_any a c n D P w2 (HA.out.below B2.out) HRt.out).mono ?_
  rintro e w3 ⟨bm, rfl, hbm, hH3, b3⟩
  have H3 := hide hH3
  have hs3 : w2.heap.size ≤ w3.heap.size := b3.size
  have X3 := hide (X2.out.below b3)
  have B3 := hide (below_next B2.out b3)
  obtain ⟨t0, t1⟩ := T2.out.below b3
  clear b3 hH3 X2 T2 B2
  go_wp2_with fail
  refine (put_there bm n _ w2.heap.size d a2 zs.length c2 w3 H3.out hwf HM.out).mono ?_
  rintro e w4 ⟨rfl, hH4, k4⟩
  have H4 := hide hH4
  have hs4 : w3.heap.size ≤ w4.heap.size := k4.size
  have X4 := hide (X3.out.kept k4 (fun e => by omega))
  have B4 := hide (B3.out.trans (k4.below B3.out.size (fun q hq e => by omega)))
  clear k4 hH4 X3 B3 H3 t0 t1
  go_wp2_with fail
  refine (rising_any bm _ _ w2.heap.size w4 H4.out (by simp [lst_length]; omega) HLen.out (by omega)).mono ?_
  rintro e w5 ⟨av, cv, rfl, hG, b5⟩
  have hlen : (lst D P n).length = n := by simp [lst_length]
  rw [hlen] at hG ⊢
  have HG := hide (hG.congr (D' := D) (P' := P) (fun i hi => by rw [HUP.out]; exact (dg_lst hi).symm) (fun i hi => by rw [HUP.out]; exact (bt_lst hi).symm))
  obtain ⟨⟨q0, q1⟩, q2, q3⟩ := X4.out.below b5
  have B5 := hide (below_next B4.out b5)
  clear hG b5 X4 B4 H4
  go_wp2_with fail
  exact bodyPost_ret (v := .agg #[.int .i64 0, .slice av (n) cv]) (by simp [results, Try.results18, go_sem, q0, q1]) rfl (ResC.box HG.out (by omega) B5.out)

set_option maxRecDepth 100000 in
set_option maxHeartbeats 1600000 in
theorem implPut_full (a : Option Addr) (c n : Nat) (D : Nat → Int) (P : Nat → List Int) (d : Int) (a2 : Option Addr) (c2 : Nat) (zs : List Int) (w : World) (h : RdC w a D P n) (hn : n ≤ 1048576) (hP : ∀ i, i < n → U8 (P i) ∧ (P i).length ≤ 1048576) (hF : fault D P n = 0) (h2 : Reads .u8 w a2 zs) (hu : U8 zs) (hl : zs.length ≤ 1048576) (hO : oneFault d zs = 0) (hd : ∀ i, i < n → D i ≠ d) (hf : 40 ≤ n) :
    Calls Try.prog 18 #[.slice a n c, .int .i64 d, .slice a2 zs.length c2] w (ResC 2 D P 0 w) := by
  have hfl := implFault_any a c n D P (w.alloc (.cells #[.int .i64 0, .slice none 0 0] 45)) (h.below (below_alloc _ _)) hn hP
  rw [hF] at hfl
  have HRt := hide (fault_zero hF)
  have hn40 := HRt.out.many
  obtain ⟨hrg, hlz, -⟩ := oneFault_zero hO
  have hwf := i64_wf hrg.1 hrg.2
  have hzne : zs ≠ [] := by intro e; subst e; simp at hlz
  have HC := hide hfl
  have HA := hide h
  have HR := hide h2
  have HLt := hide (h2.lt hzne)
  have hon := fun u (hr : Reads .u8 u a2 zs) => implOne_any d a2 c2 zs u hr hu hl
  rw [hO] at hon
  have HOne := hide hon
  have HLen : Hid (∀ p ∈ lst D P n, 0 < p.2.length ∧ p.2.length ≤ 1048576) := fun p hp => by obtain ⟨i, hi, e⟩ := lst_mem.1 hp; subst e; exact HRt.out.u8len hi
  have HM : Hid (d ∉ (lst D P n).map Prod.fst) := by intro hm; obtain ⟨i, hi, e⟩ := lst_key.1 hm; exact hd i hi e
  clear hd
  clear h hP hF hfl h2 hu hO hon
  go_enter Try.func18, Try.ntmps18
  go_wp2_with fail
  refine HC.out.mono ?_
  rintro e w1 ⟨rfl, b1⟩
  have hs1 : w.heap.size < w1.heap.size := by have := b1.size; simp at this; omega
  have X1 := hide (((Box.new w (.int .i64 0) (.slice none 0 0) 45).below b1).below (below_alloc _ (.cells #[.int .i64 d, .slice a2 zs.length c2] 53)))
  have T1 := hide (Two.new w1 (.int .i64 d) (.slice a2 zs.length c2) 53)
  have B1 := hide (below_next (below_next (below_alloc w (.cells #[.int .i64 0, .slice none 0 0] 45)) b1) (below_alloc _ (.cells #[.int .i64 d, .slice a2 zs.length c2] 53)))
  clear b1 HC
  go_wp2_with fail
  refine (HOne.out _ (HR.out.below B1.out)).mono ?_
  rintro e w2 ⟨rfl, b2⟩
  have hs2 : w1.heap.size < w2.heap.size := by have := b2.size; simp at this; omega
  have X2 := hide (X1.out.below b2)
  have T2 := hide (T1.out.below b2)
  have B2 := hide (below_next B1.out b2)
  clear b2 X1 T1 B1
  go_wp2_with fail
  refine (mapChunks_any a c n D P w2 (HA.out.below B2.out) HRt.out).mono ?_
  rintro e w3 ⟨bm, rfl, hbm, hH3, b3⟩
  have H3 := hide hH3
  have hs3 : w2.heap.size ≤ w3.heap.size := b3.size
  have X3 := hide (X2.out.below b3)
  have B3 := hide (below_next B2.out b3)
  obtain ⟨t0, t1⟩ := T2.out.below b3
  clear b3 hH3 X2 T2 B2
  go_wp2_with fail
  refine (put_full bm n _ w2.heap.size d a2 zs.length c2 w3 H3.out hwf HM.out (by rw [lst_length]; exact hf)).mono ?_
  rintro e w4 ⟨rfl, hH4, k4⟩
  have H4 := hide hH4
  have hs4 : w3.heap.size ≤ w4.heap.size := k4.size
  have X4 := hide (X3.out.kept k4 (fun e => by omega))
  have B4 := hide (B3.out.trans (k4.below B3.out.size (fun q hq e => by omega)))
  clear k4 hH4 X3 B3 H3 t0 t1
  obtain ⟨⟨q0, q1⟩, q2, q3⟩ := X4.out
  go_wp2_with fail
  exact bodyPost_ret (v := .agg #[.int .i64 2, .slice none 0 0]) (by simp [results, Try.results18, go_sem, q0, q1]) rfl (ResC.no ((B4.out.setCell (Nat.le_refl _) _).setCell (Nat.le_refl _) _))

set_option maxRecDepth 100000 in
set_option maxHeartbeats 1600000 in
theorem implPut_new (a : Option Addr) (c n : Nat) (D : Nat → Int) (P : Nat → List Int) (d : Int) (a2 : Option Addr) (c2 : Nat) (zs : List Int) (w : World) (h : RdC w a D P n) (hn : n ≤ 1048576) (hP : ∀ i, i < n → U8 (P i) ∧ (P i).length ≤ 1048576) (hF : fault D P n = 0) (h2 : Reads .u8 w a2 zs) (hu : U8 zs) (hl : zs.length ≤ 1048576) (hO : oneFault d zs = 0) (m : Nat) (hd : ∀ i, i < n → D i ≠ d) (hf : n < 40) (hm : m ≤ n) (hlow : ∀ i, i < m → D i < d) (hhigh : m < n → ¬ D m < d) :
    Calls Try.prog 18 #[.slice a n c, .int .i64 d, .slice a2 zs.length c2] w (ResC 0 (ins D m d) (ins P m zs) (n + 1) w) := by
  have hfl := implFault_any a c n D P (w.alloc (.cells #[.int .i64 0, .slice none 0 0] 45)) (h.below (below_alloc _ _)) hn hP
  rw [hF] at hfl
  have HRt := hide (fault_zero hF)
  have hn40 := HRt.out.many
  obtain ⟨hrg, hlz, -⟩ := oneFault_zero hO
  have hwf := i64_wf hrg.1 hrg.2
  have hzne : zs ≠ [] := by intro e; subst e; simp at hlz
  have HC := hide hfl
  have HA := hide h
  have HR := hide h2
  have HLt := hide (h2.lt hzne)
  have hon := fun u (hr : Reads .u8 u a2 zs) => implOne_any d a2 c2 zs u hr hu hl
  rw [hO] at hon
  have HOne := hide hon
  have HLen : Hid (∀ p ∈ lst D P n, 0 < p.2.length ∧ p.2.length ≤ 1048576) := fun p hp => by obtain ⟨i, hi, e⟩ := lst_mem.1 hp; subst e; exact HRt.out.u8len hi
  have HM : Hid (d ∉ (lst D P n).map Prod.fst) := by intro hm; obtain ⟨i, hi, e⟩ := lst_key.1 hm; exact hd i hi e
  have hpw := pairwise_lst (D := ins D m d) (P := ins P m zs) (n := n + 1) (ins_up HRt.out hm hlow hhigh hd)
  have hip := ins_perm D P hm d zs
  have hnd : ((lst D P n ++ [(d, zs)]).map Prod.fst).Nodup := ((hip.map Prod.fst).nodup_iff).1 (List.pairwise_map.2 (hpw.imp (fun {p q} h e => by omega)))
  have HUP : Hid (up (lst D P n ++ [(d, zs)]) = lst (ins D m d) (ins P m zs) (n + 1)) := up_unique ((up_perm hnd).trans hip.symm) (up_up hnd) hpw
  have HLen2 : Hid (∀ p ∈ lst D P n ++ [(d, zs)], 0 < p.2.length ∧ p.2.length ≤ 1048576) := fun p hp => by
    rcases List.mem_append.1 hp with h1 | h1
    · exact HLen.out p h1
    · simp at h1; subst h1; simp; omega
  clear hpw hnd hd hip hlow hhigh
  clear h hP hF hfl h2 hu hO hon
  go_enter Try.func18, Try.ntmps18
  go_wp2_with fail
  refine HC.out.mono ?_
  rintro e w1 ⟨rfl, b1⟩
  have hs1 : w.heap.size < w1.heap.size := by have := b1.size; simp at this; omega
  have X1 := hide (((Box.new w (.int .i64 0) (.slice none 0 0) 45).below b1).below (below_alloc _ (.cells #[.int .i64 d, .slice a2 zs.length c2] 53)))
  have T1 := hide (Two.new w1 (.int .i64 d) (.slice a2 zs.length c2) 53)
  have B1 := hide (below_next (below_next (below_alloc w (.cells #[.int .i64 0, .slice none 0 0] 45)) b1) (below_alloc _ (.cells #[.int .i64 d, .slice a2 zs.length c2] 53)))
  clear b1 HC
  go_wp2_with fail
  refine (HOne.out _ (HR.out.below B1.out)).mono ?_
  rintro e w2 ⟨rfl, b2⟩
  have hs2 : w1.heap.size < w2.heap.size := by have := b2.size; simp at this; omega
  have X2 := hide (X1.out.below b2)
  have T2 := hide (T1.out.below b2)
  have B2 := hide (below_next B1.out b2)
  clear b2 X1 T1 B1
  go_wp2_with fail
  refine (mapChunks_any a c n D P w2 (HA.out.below B2.out) HRt.out).mono ?_
  rintro e w3 ⟨bm, rfl, hbm, hH3, b3⟩
  have H3 := hide hH3
  have hs3 : w2.heap.size ≤ w3.heap.size := b3.size
  have X3 := hide (X2.out.below b3)
  have B3 := hide (below_next B2.out b3)
  obtain ⟨t0, t1⟩ := T2.out.below b3
  clear b3 hH3 X2 T2 B2
  go_wp2_with fail
  refine (put_new bm n _ w2.heap.size d a2 c2 zs w3 H3.out hwf HM.out (by rw [lst_length]; exact hf) (by omega) (HR.out.below B3.out) (fun x hx => by have := HLt.out x hx; omega)).mono ?_
  rintro e w4 ⟨rfl, hH4, k4⟩
  have H4 := hide hH4
  have hs4 : w3.heap.size ≤ w4.heap.size := k4.size
  have X4 := hide (X3.out.kept k4 (fun e => by omega))
  have B4 := hide (B3.out.trans (k4.below B3.out.size (fun q hq e => by omega)))
  clear k4 hH4 X3 B3 H3 t0 t1
  go_wp2_with fail
  refine (rising_any bm _ _ w2.heap.size w4 H4.out (by simp [lst_length]; omega) HLen2.out (by omega)).mono ?_
  rintro e w5 ⟨av, cv, rfl, hG, b5⟩
  have hlen : (lst D P n ++ [(d, zs)]).length = n + 1 := by simp [lst_length]
  rw [hlen] at hG ⊢
  have HG := hide (hG.congr (D' := ins D m d) (P' := ins P m zs) (fun i hi => by rw [HUP.out]; exact (dg_lst hi).symm) (fun i hi => by rw [HUP.out]; exact (bt_lst hi).symm))
  obtain ⟨⟨q0, q1⟩, q2, q3⟩ := X4.out.below b5
  have B5 := hide (below_next B4.out b5)
  clear hG b5 X4 B4 H4
  go_wp2_with fail
  exact bodyPost_ret (v := .agg #[.int .i64 0, .slice av (n + 1) cv]) (by simp [results, Try.results18, go_sem, q0, q1]) rfl (ResC.box HG.out (by omega) B5.out)

set_option maxRecDepth 100000 in
set_option maxHeartbeats 800000 in
theorem specPut_bad (a : Option Addr) (c n : Nat) (D : Nat → Int) (P : Nat → List Int) (d : Int) (a2 : Option Addr) (c2 : Nat) (zs : List Int) (w : World) (h : RdC w a D P n) (hn : n ≤ 1048576) (hP : ∀ i, i < n → U8 (P i) ∧ (P i).length ≤ 1048576) (hF : fault D P n ≠ 0) :
    Calls Try.prog 19 #[.slice a n c, .int .i64 d, .slice a2 zs.length c2] w (ResC (fault D P n) D P 0 w) := by
  have HC := hide (specFault_any a c n D P (w.alloc (.cells #[.int .i64 0, .slice none 0 0] 45)) (h.below (below_alloc _ _)) hn hP)
  generalize fault D P n = F at *
  have hne : (F != 0) = true := by simpa using hF
  clear h hP hF
  go_enter Try.func19, Try.ntmps19
  go_wp2_with fail
  refine HC.out.mono ?_
  rintro e w1 ⟨rfl, b1⟩
  obtain ⟨⟨q0, q1⟩, q2, q3⟩ := (Box.new w (.int .i64 0) (.slice none 0 0) 45).below b1
  have B1 := hide (below_next (below_alloc w (.cells #[.int .i64 0, .slice none 0 0] 45)) b1)
  clear b1 HC
  go_wp2_with fail
  exact bodyPost_ret (v := .agg #[.int .i64 F, .slice none 0 0]) (by simp [results, Try.results19, go_sem, q0, q1]) rfl (ResC.no ((B1.out.setCell (Nat.le_refl _) _).setCell (Nat.le_refl _) _))

set_option maxRecDepth 100000 in
set_option maxHeartbeats 1600000 in
theorem specPut_one (a : Option Addr) (c n : Nat) (D : Nat → Int) (P : Nat → List Int) (d : Int) (a2 : Option Addr) (c2 : Nat) (zs : List Int) (w : World) (h : RdC w a D P n) (hn : n ≤ 1048576) (hP : ∀ i, i < n → U8 (P i) ∧ (P i).length ≤ 1048576) (hF : fault D P n = 0) (h2 : Reads .u8 w a2 zs) (hu : U8 zs) (hl : zs.length ≤ 1048576) (hO : oneFault d zs ≠ 0) :
    Calls Try.prog 19 #[.slice a n c, .int .i64 d, .slice a2 zs.length c2] w (ResC (oneFault d zs) D P 0 w) := by
  have hfl := specFault_any a c n D P (w.alloc (.cells #[.int .i64 0, .slice none 0 0] 45)) (h.below (below_alloc _ _)) hn hP
  rw [hF] at hfl
  have HRt := hide (fault_zero hF)
  have hn40 := HRt.out.many
  have HC := hide hfl
  have HA := hide h
  have HR := hide h2
  have hon := fun u (hr : Reads .u8 u a2 zs) => specOne_any d a2 c2 zs u hr hu hl
  have HOne := hide hon
  generalize oneFault d zs = F at *
  have hne : (F != 0) = true := by simpa using hO
  clear h hP hF hfl h2 hu hO hon
  go_enter Try.func19, Try.ntmps19
  go_wp2_with fail
  refine HC.out.mono ?_
  rintro e w1 ⟨rfl, b1⟩
  have hs1 : w.heap.size < w1.heap.size := by have := b1.size; simp at this; omega
  have X1 := hide ((Box.new w (.int .i64 0) (.slice none 0 0) 45).below b1)
  have B1 := hide (below_next (below_alloc w (.cells #[.int .i64 0, .slice none 0 0] 45)) b1)
  clear b1 HC
  go_wp2_with fail
  refine (HOne.out _ (HR.out.below B1.out)).mono ?_
  rintro e w2 ⟨rfl, nq, rfl⟩
  have X2 := hide (X1.out.below (below_drewN (Below.refl _ _) nq))
  have B2 := hide (below_drewN B1.out nq)
  generalize w1.drewN nq = w2 at *
  obtain ⟨⟨q0, q1⟩, q2, q3⟩ := X2.out
  go_wp2_with fail
  exact bodyPost_ret (v := .agg #[.int .i64 F, .slice none 0 0]) (by simp [results, Try.results19, go_sem, q0, q1]) rfl (ResC.no ((B2.out.setCell (Nat.le_refl _) _).setCell (Nat.le_refl _) _))

set_option maxRecDepth 100000 in
set_option maxHeartbeats 1600000 in
theorem specPut_there (ab ao c n : Nat) (D : Nat → Int) (P : Nat → List Int) (d : Int) (a2 : Option Addr) (c2 : Nat) (zs : List Int) (w : World) (h : RdC w (some ⟨ab, ao, none⟩) D P n) (hn : n ≤ 1048576) (hP : ∀ i, i < n → U8 (P i) ∧ (P i).length ≤ 1048576) (hF : fault D P n = 0) (h2 : Reads .u8 w a2 zs) (hu : U8 zs) (hl : zs.length ≤ 1048576) (hO : oneFault d zs = 0) (hcap : n ≤ c) (hd : ∃ i, i < n ∧ D i = d) :
    Calls Try.prog 19 #[.slice (some ⟨ab, ao, none⟩) n c, .int .i64 d, .slice a2 zs.length c2] w (ResC 0 D P n w) := by
  have hfl := specFault_any (some ⟨ab, ao, none⟩) c n D P (w.alloc (.cells #[.int .i64 0, .slice none 0 0] 45)) (h.below (below_alloc _ _)) hn hP
  rw [hF] at hfl
  have HRt := hide (fault_zero hF)
  have hn40 := HRt.out.many
  have HC := hide hfl
  have HA := hide h
  have HR := hide h2
  have hon := fun u (hr : Reads .u8 u a2 zs) => specOne_any d a2 c2 zs u hr hu hl
  rw [hO] at hon
  have HOne := hide hon
  obtain ⟨hrg, hlz, -⟩ := oneFault_zero hO
  have HPl : Hid (∀ i, i < n → 0 < (P i).length ∧ (P i).length ≤ 1048576) := fun i hi => HRt.out.u8len hi
  clear h hP hF hfl h2 hu hO hon
  go_enter Try.func19, Try.ntmps19
  go_wp2_with fail
  refine HC.out.mono ?_
  rintro e w1 ⟨rfl, b1⟩
  have hs1 : w.heap.size < w1.heap.size := by have := b1.size; simp at this; omega
  have X1 := hide ((Box.new w (.int .i64 0) (.slice none 0 0) 45).below b1)
  have B1 := hide (below_next (below_alloc w (.cells #[.int .i64 0, .slice none 0 0] 45)) b1)
  clear b1 HC
  go_wp2_with fail
  refine (HOne.out _ (HR.out.below B1.out)).mono ?_
  rintro e w2 ⟨rfl, nq, rfl⟩
  have X2 := hide (X1.out.below (below_drewN (Below.refl _ _) nq))
  have B2 := hide (below_drewN B1.out nq)
  have hs2 : w.heap.size < (w1.drewN nq).heap.size := hs1
  generalize w1.drewN nq = w2 at *
  clear X1 B1
  go_wp2_with fail
  refine (l2Put_there _ c n D P d a2 zs.length c2 w2 (HA.out.below B2.out) hn HPl.out hd).mono ?_
  rintro e w3 ⟨av, cv, rfl, hG, b3⟩
  have HG := hide hG
  obtain ⟨⟨q0, q1⟩, q2, q3⟩ := X2.out.below b3
  have B3 := hide (below_next B2.out b3)
  clear hG b3 X2 B2
  go_wp2_with fail
  exact bodyPost_ret (v := .agg #[.int .i64 0, .slice av (n) cv]) (by simp [results, Try.results19, go_sem, q0, q1]) rfl (ResC.box HG.out (by omega) B3.out)

set_option maxRecDepth 100000 in
set_option maxHeartbeats 1600000 in
theorem specPut_full (ab ao c n : Nat) (D : Nat → Int) (P : Nat → List Int) (d : Int) (a2 : Option Addr) (c2 : Nat) (zs : List Int) (w : World) (h : RdC w (some ⟨ab, ao, none⟩) D P n) (hn : n ≤ 1048576) (hP : ∀ i, i < n → U8 (P i) ∧ (P i).length ≤ 1048576) (hF : fault D P n = 0) (h2 : Reads .u8 w a2 zs) (hu : U8 zs) (hl : zs.length ≤ 1048576) (hO : oneFault d zs = 0) (hcap : n ≤ c) (hd : ∀ i, i < n → D i ≠ d) (hf : 40 ≤ n) :
    Calls Try.prog 19 #[.slice (some ⟨ab, ao, none⟩) n c, .int .i64 d, .slice a2 zs.length c2] w (ResC 2 D P 0 w) := by
  have hfl := specFault_any (some ⟨ab, ao, none⟩) c n D P (w.alloc (.cells #[.int .i64 0, .slice none 0 0] 45)) (h.below (below_alloc _ _)) hn hP
  rw [hF] at hfl
  have HRt := hide (fault_zero hF)
  have hn40 := HRt.out.many
  have HC := hide hfl
  have HA := hide h
  have HR := hide h2
  have hon := fun u (hr : Reads .u8 u a2 zs) => specOne_any d a2 c2 zs u hr hu hl
  rw [hO] at hon
  have HOne := hide hon
  obtain ⟨hrg, hlz, -⟩ := oneFault_zero hO
  have HPl : Hid (∀ i, i < n → 0 < (P i).length ∧ (P i).length ≤ 1048576) := fun i hi => HRt.out.u8len hi
  have HD := hide hd
  clear hd
  clear h hP hF hfl h2 hu hO hon
  go_enter Try.func19, Try.ntmps19
  go_wp2_with fail
  refine HC.out.mono ?_
  rintro e w1 ⟨rfl, b1⟩
  have hs1 : w.heap.size < w1.heap.size := by have := b1.size; simp at this; omega
  have X1 := hide ((Box.new w (.int .i64 0) (.slice none 0 0) 45).below b1)
  have B1 := hide (below_next (below_alloc w (.cells #[.int .i64 0, .slice none 0 0] 45)) b1)
  clear b1 HC
  go_wp2_with fail
  refine (HOne.out _ (HR.out.below B1.out)).mono ?_
  rintro e w2 ⟨rfl, nq, rfl⟩
  have X2 := hide (X1.out.below (below_drewN (Below.refl _ _) nq))
  have B2 := hide (below_drewN B1.out nq)
  have hs2 : w.heap.size < (w1.drewN nq).heap.size := hs1
  generalize w1.drewN nq = w2 at *
  clear X1 B1
  go_wp2_with fail
  refine (l2Put_full _ c n D P d a2 zs.length c2 w2 (HA.out.below B2.out) hn HD.out hf).mono ?_
  rintro e w3 ⟨rfl, b3⟩
  obtain ⟨⟨q0, q1⟩, q2, q3⟩ := X2.out.below b3
  have B3 := hide (below_next B2.out b3)
  clear b3 X2 B2
  go_wp2_with fail
  exact bodyPost_ret (v := .agg #[.int .i64 2, .slice none 0 0]) (by simp [results, Try.results19, go_sem, q0, q1]) rfl (ResC.no ((B3.out.setCell (Nat.le_refl _) _).setCell (Nat.le_refl _) _))

set_option maxRecDepth 100000 in
set_option maxHeartbeats 1600000 in
theorem specPut_new (ab ao c n : Nat) (D : Nat → Int) (P : Nat → List Int) (d : Int) (a2 : Option Addr) (c2 : Nat) (zs : List Int) (w : World) (h : RdC w (some ⟨ab, ao, none⟩) D P n) (hn : n ≤ 1048576) (hP : ∀ i, i < n → U8 (P i) ∧ (P i).length ≤ 1048576) (hF : fault D P n = 0) (h2 : Reads .u8 w a2 zs) (hu : U8 zs) (hl : zs.length ≤ 1048576) (hO : oneFault d zs = 0) (hcap : n ≤ c) (m : Nat) (hd : ∀ i, i < n → D i ≠ d) (hf : n < 40) (hm : m ≤ n) (hlow : ∀ i, i < m → D i < d) (hhigh : m < n → ¬ D m < d) :
    Calls Try.prog 19 #[.slice (some ⟨ab, ao, none⟩) n c, .int .i64 d, .slice a2 zs.length c2] w (ResC 0 (ins D m d) (ins P m zs) (n + 1) w) := by
  have hfl := specFault_any (some ⟨ab, ao, none⟩) c n D P (w.alloc (.cells #[.int .i64 0, .slice none 0 0] 45)) (h.below (below_alloc _ _)) hn hP
  rw [hF] at hfl
  have HRt := hide (fault_zero hF)
  have hn40 := HRt.out.many
  have HC := hide hfl
  have HA := hide h
  have HR := hide h2
  have hon := fun u (hr : Reads .u8 u a2 zs) => specOne_any d a2 c2 zs u hr hu hl
  rw [hO] at hon
  have HOne := hide hon
  obtain ⟨hrg, hlz, -⟩ := oneFault_zero hO
  have HPl : Hid (∀ i, i < n → 0 < (P i).length ∧ (P i).length ≤ 1048576) := fun i hi => HRt.out.u8len hi
  have HD := hide (And.intro hd (And.intro hlow hhigh))
  clear hd hlow hhigh
  clear h hP hF hfl h2 hu hO hon
  go_enter Try.func19, Try.ntmps19
  go_wp2_with fail
  refine HC.out.mono ?_
  rintro e w1 ⟨rfl, b1⟩
  have hs1 : w.heap.size < w1.heap.size := by have := b1.size; simp at this; omega
  have X1 := hide ((Box.new w (.int .i64 0) (.slice none 0 0) 45).below b1)
  have B1 := hide (below_next (below_alloc w (.cells #[.int .i64 0, .slice none 0 0] 45)) b1)
  clear b1 HC
  go_wp2_with fail
  refine (HOne.out _ (HR.out.below B1.out)).mono ?_
  rintro e w2 ⟨rfl, nq, rfl⟩
  have X2 := hide (X1.out.below (below_drewN (Below.refl _ _) nq))
  have B2 := hide (below_drewN B1.out nq)
  have hs2 : w.heap.size < (w1.drewN nq).heap.size := hs1
  generalize w1.drewN nq = w2 at *
  clear X1 B1
  go_wp2_with fail
  refine (l2Put_new ab ao c n m D P d a2 c2 zs w2 (HA.out.below B2.out) hcap hf HPl.out (HR.out.below B2.out) ⟨by omega, by omega⟩ HD.out.1 hm HD.out.2.1 (fun hh => by have := HD.out.2.2 hh; omega)).mono ?_
  rintro e w3 ⟨av, cv, rfl, hG, b3⟩
  have HG := hide hG
  obtain ⟨⟨q0, q1⟩, q2, q3⟩ := X2.out.below b3
  have B3 := hide (below_next B2.out b3)
  clear hG b3 X2 B2
  go_wp2_with fail
  exact bodyPost_ret (v := .agg #[.int .i64 0, .slice av (n + 1) cv]) (by simp [results, Try.results19, go_sem, q0, q1]) rfl (ResC.box HG.out (by omega) B3.out)

end Go.Proofs.Ytdebojhginiihaa
