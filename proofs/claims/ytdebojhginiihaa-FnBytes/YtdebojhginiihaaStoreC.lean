/-
  Contracts of the program's functions on its map of chunks.
-/
import Derived.Test.YtdebojhginiihaaStore
import Derived.Test.YtdebojhginiihaaBytesR
import Derived.Test.YtdebojhginiihaaCut
namespace Go.Proofs.Ytdebojhginiihaa
open Go.RowKit Go.Maps
set_option linter.unusedVariables false

theorem Right.inj {D : Nat → Int} {P : Nat → List Int} {n : Nat} (h : Right D P n) : ∀ i j, i < j → j < n → D i < D j := by
  intro i j hij hj
  induction j with
  | zero => omega
  | succ j ih =>
    have h1 := h.up j hj
    by_cases e : i = j
    · subst e; exact h1
    · have := ih (by omega) (by omega)
      omega
theorem Right.new {D : Nat → Int} {P : Nat → List Int} {n k : Nat} (h : Right D P n) (hk : k < n) : D k ∉ (lst D P k).map Prod.fst := by
  rw [lst_key]
  rintro ⟨i, hi, e⟩
  have := h.inj i k hi hk
  omega
theorem Right.wf {D : Nat → Int} {P : Nat → List Int} {n k : Nat} (h : Right D P n) (hk : k < n) : (Lit.int .i64 (D k)).wf = true := i64_wf (h.range k hk).1 (h.range k hk).2

theorem Right.first {D : Nat → Int} {P : Nat → List Int} {n i : Nat} (h : Right D P n) (hi : i < n) : ∀ j, j < i → D j ≠ D i := fun j hj e => by
  have := h.inj j i hj hi
  omega
theorem Right.u8len {D : Nat → Int} {P : Nat → List Int} {n i : Nat} (h : Right D P n) (hi : i < n) : 0 < (P i).length ∧ (P i).length ≤ 1048576 := by
  have := h.len i hi; omega

theorem Reads.lt {k : IntKind} {w : World} {a : Option Addr} {zs : List Int} (h : Reads k w a zs) (hz : zs ≠ []) : ∀ x, a = some x → x.block < w.heap.size := by
  intro x hx
  obtain ⟨b, off, e, hb, _⟩ := h hz
  rw [hx] at e
  simp only [Option.some.injEq] at e
  subst e
  exact hb

set_option maxRecDepth 100000 in
set_option maxHeartbeats 1600000 in
theorem mapChunks_any (a : Option Addr) (c n : Nat) (D : Nat → Int) (P : Nat → List Int) (w : World) (h : RdC w a D P n) (hR : Right D P n) :
    Calls Try.prog 41 #[.slice a n c] w fun e w' => ∃ b, e = .returned (.map (some b)) ∧ w.heap.size ≤ b ∧ Holds w' b n (lst D P n) w.heap.size ∧ Below w.heap.size w w' := by
  have HA := hide h
  have HR := hide hR
  have hn := hR.many
  clear h hR
  have hmm : ∀ u : World, (Instr.makeMap 74 (some (.int .i64 (n : Int)))).run Try.prog u = .ok (.map (some u.heap.size)) (u.alloc (.map #[] 0)) := fun u => by simp [Instr.makeMap, asInt, asIntOf, Result.andThen]
  go_enter Try.func41, Try.ntmps41
  go_wp2
  go_loopw [5, 11] (fun _ i wr => ∃ k : Nat, k ≤ n ∧ i = .int .i64 k ∧ Holds wr w.heap.size k (lst D P k) w.heap.size ∧ Below w.heap.size w wr) (fun _ i _ => n - (intOf i).toNat)
  case atStart => exact ⟨0, Nat.zero_le _, rfl, Holds.made w _, below_alloc _ _⟩
  case round =>
    obtain ⟨k, hk, rfl, hH, hbel⟩ := hrel
    have HH := hide hH
    have HW := hide hbel
    clear hH hbel
    by_cases hlt : k < n
    · obtain ⟨b1, o1, A1, C1, rfl, hb1, hc1⟩ := HA.out (by omega)
      obtain ⟨c1, e1, r1⟩ := hc1 k hlt
      have c1 := (HW.out.cell (p := ⟨b1, o1 + k * 2, none⟩) hb1).trans c1
      have e1 := (HW.out.cell (p := ⟨b1, o1 + k * 2 + 1, none⟩) hb1).trans e1
      have hpos := (HR.out.u8len hlt).1
      have hT := r1.lt (by intro e; simp [e] at hpos)
      have r1 := r1.below HW.out
      have hnew := HR.out.new hlt
      have hwf := HR.out.wf hlt
      have HS := hide (lst_succ D P k)
      generalize A1 k = a1 at e1 r1 hT
      generalize C1 k = d1 at e1
      generalize P k = xs at *
      generalize D k = dd at *
      generalize lst D P k = L at *
      obtain ⟨Dt, hown, hput⟩ := (HH.out.below (below_alloc wr (.cells #[.int .i64 dd, .slice a1 xs.length d1] 53))).put (c := d1) hnew (r1.below (below_alloc _ _)) hT
      have HO := hide hown
      have HPt := hide hput
      have HK := hide (key64 hwf)
      clear hc1 r1 hown hput hnew hwf hT hpos
      go_wp2_with (first | (at_mapUpdate; refine wpList_mapUpdate_own _ rfl _ _ _ 74 rfl 2 53 law64 Try.underlying74 RV w.heap.size k Dt rfl HO.out (by unfold maxLen; omega) _ _ _ rfl rfl HK.out (.held (chv dd a1 xs.length d1)) [] rfl ?_; intro w1 hown1 hgrow1; have HH1 := hide (HPt.out w1 hown1 hgrow1); have HG1 := hide hgrow1; clear hown1 hgrow1) | go_in)
      go_roundw
      case rel => exact ⟨k + 1, by omega, by go_num, by rw [HS.out]; exact HH1.out, (below_next HW.out (below_alloc _ _)).trans ((Kept.of_grown HG1.out).below (Nat.le_trans HW.out.size (by simp)) (fun j hj e => by omega))⟩
      case measure => simp [intOf]; omega
    · have hke : k = n := by omega
      subst hke
      go_wp2
      go_ret
      exact ⟨_, rfl, Nat.le_refl _, HH.out, HW.out⟩

set_option maxRecDepth 100000 in
set_option maxHeartbeats 800000 in
theorem l2At_yes (a : Option Addr) (c n i : Nat) (d : Int) (D : Nat → Int) (P : Nat → List Int) (w : World) (h : RdC w a D P n) (hn : n ≤ 1048576) (hi : i < n) (hd : D i = d) (hf : ∀ j, j < i → D j ≠ d) :
    Calls Try.prog 58 #[.slice a n c, .int .i64 d] w fun e w' => e = .returned (.int .i64 i) ∧ w' = w := by
  obtain ⟨b1, o1, A1, C1, rfl, hb1, hc1⟩ := h (by omega)
  have HC := hide hc1
  have HF := hide hf
  have HD := hide hd
  clear h hc1 hf hd
  go_enter Try.func58, Try.ntmps58
  go_wp2
  go_loop [5] (fun q => ∃ k : Nat, k ≤ i ∧ q = .int .i64 k) (fun q => n - (intOf q).toNat)
  case atStart => exact ⟨0, Nat.zero_le _, rfl⟩
  case round =>
    obtain ⟨k, hk, rfl⟩ := hrel
    have hlt : k < n := by omega
    obtain ⟨c1, _, _⟩ := HC.out k hlt
    by_cases e : k = i
    · subst e
      rw [HD.out] at c1
      go_wp2
      go_ret
      exact ⟨rfl, rfl⟩
    · have hne : (D k == d) = false := by simpa using HF.out k (by omega)
      generalize D k = dd at c1 hne
      go_wp2
      go_round
      case rel => exact ⟨k + 1, by omega, by go_num⟩
      case measure => simp [intOf]; omega

set_option maxRecDepth 100000 in
set_option maxHeartbeats 800000 in
theorem l2At_no (a : Option Addr) (c n : Nat) (d : Int) (D : Nat → Int) (P : Nat → List Int) (w : World) (h : RdC w a D P n) (hn : n ≤ 1048576) (hf : ∀ j, j < n → D j ≠ d) :
    Calls Try.prog 58 #[.slice a n c, .int .i64 d] w fun e w' => e = .returned (.int .i64 (-1)) ∧ w' = w := by
  have HA := hide h
  have HF := hide hf
  clear h hf
  go_enter Try.func58, Try.ntmps58
  go_wp2
  go_loop [5] (fun q => ∃ k : Nat, k ≤ n ∧ q = .int .i64 k) (fun q => n - (intOf q).toNat)
  case atStart => exact ⟨0, Nat.zero_le _, rfl⟩
  case round =>
    obtain ⟨k, hk, rfl⟩ := hrel
    by_cases hlt : k < n
    · obtain ⟨b1, o1, A1, C1, rfl, hb1, hc1⟩ := HA.out (by omega)
      obtain ⟨c1, _, _⟩ := hc1 k hlt
      have hne : (D k == d) = false := by simpa using HF.out k hlt
      generalize D k = dd at c1 hne
      clear hc1
      go_wp2
      go_round
      case rel => exact ⟨k + 1, by omega, by go_num⟩
      case measure => simp [intOf]; omega
    · go_wp2
      go_ret
      exact ⟨rfl, rfl⟩

/-- A result of bytes: a code and bytes of its own. -/
def ResB (q : Int) (zs : List Int) (w : World) (e : Ending) (w' : World) : Prop :=
  ∃ a' c', e = .returned (.agg #[.int .i64 q, .slice a' zs.length c']) ∧ GB w.heap.size w'.heap.size w' (.slice a' zs.length c') zs ∧ Below w.heap.size w w'
theorem GB.nil (B T : Nat) (w : World) : GB B T w (.slice none 0 0) [] := ⟨World.ownsRow_nil _ _ _ _, fun b hb => by simp [Value.ownBlock] at hb⟩
theorem ResB.no {q : Int} {w w' : World} (h : Below w.heap.size w w') : ResB q [] w (.returned (.agg #[.int .i64 q, .slice none 0 0])) w' := ⟨none, 0, rfl, GB.nil _ _ _, h⟩


set_option maxRecDepth 100000 in
set_option maxHeartbeats 800000 in
theorem implChunkFor_bad (a : Option Addr) (c n : Nat) (D : Nat → Int) (P : Nat → List Int) (d : Int) (w : World) (h : RdC w a D P n) (hn : n ≤ 1048576) (hP : ∀ i, i < n → U8 (P i) ∧ (P i).length ≤ 1048576) (hF : fault D P n ≠ 0) :
    Calls Try.prog 20 #[.slice a n c, .int .i64 d] w (ResB (fault D P n) [] w) := by
  have HC := hide (implFault_any a c n D P (w.alloc (.cells #[.int .i64 0, .slice none 0 0] 48)) (h.below (below_alloc _ _)) hn hP)
  generalize fault D P n = F at *
  have hne : (F != 0) = true := by simpa using hF
  clear h hP hF
  go_enter Try.func20, Try.ntmps20
  go_wp2_with fail
  refine HC.out.mono ?_
  rintro e w1 ⟨rfl, b1⟩
  obtain ⟨⟨q0, q1⟩, q2, q3⟩ := (Box.new w (.int .i64 0) (.slice none 0 0) 48).below b1
  have B1 := hide (below_next (below_alloc w (.cells #[.int .i64 0, .slice none 0 0] 48)) b1)
  clear b1 HC
  go_wp2_with fail
  exact bodyPost_ret (v := .agg #[.int .i64 F, .slice none 0 0]) (by simp [results, Try.results20, go_sem, q0, q1]) rfl (ResB.no ((B1.out.setCell (Nat.le_refl _) _).setCell (Nat.le_refl _) _))


set_option maxRecDepth 100000 in
set_option maxHeartbeats 800000 in
theorem implChunkFor_no (a : Option Addr) (c n : Nat) (D : Nat → Int) (P : Nat → List Int) (d : Int) (w : World) (h : RdC w a D P n) (hn : n ≤ 1048576) (hP : ∀ i, i < n → U8 (P i) ∧ (P i).length ≤ 1048576) (hF : fault D P n = 0) (hw : (Lit.int .i64 d).wf = true) (hd : ∀ j, j < n → D j ≠ d) :
    Calls Try.prog 20 #[.slice a n c, .int .i64 d] w (ResB 4 [] w) := by
  have hfl := implFault_any a c n D P (w.alloc (.cells #[.int .i64 0, .slice none 0 0] 48)) (h.below (below_alloc _ _)) hn hP
  rw [hF] at hfl
  have HR := hide (fault_zero hF)
  have HC := hide hfl
  have HA := hide h
  have HD : Hid (d ∉ (lst D P n).map Prod.fst) := by intro hm; obtain ⟨i, hi, e⟩ := lst_key.1 hm; exact hd i hi e
  clear h hP hF hfl hd
  go_enter Try.func20, Try.ntmps20
  go_wp2_with fail
  refine HC.out.mono ?_
  rintro e w1 ⟨rfl, b1⟩
  have X1 := hide ((Box.new w (.int .i64 0) (.slice none 0 0) 48).below b1)
  have B1 := hide (below_next (below_alloc w (.cells #[.int .i64 0, .slice none 0 0] 48)) b1)
  clear b1 HC
  go_wp2_with fail
  refine (mapChunks_any a c n D P w1 (HA.out.below B1.out) HR.out).mono ?_
  rintro e w2 ⟨bm, rfl, hbm, H2, b2⟩
  have HL := hide (H2.no HD.out hw 74 Try.underlying74)
  have X2 := hide ((X1.out.below b2).below (below_alloc _ (.cells #[.int .i64 0, .slice none 0 0] 53)))
  have B2 := hide (below_next (below_next B1.out b2) (below_alloc _ (.cells #[.int .i64 0, .slice none 0 0] 53)))
  obtain ⟨⟨q0, q1⟩, q2, q3⟩ := X2.out
  clear b2 X1 H2
  go_wp2_with (first | (at_lookup; refine wpList_look rfl _ _ 74 true rfl _ _ _ rfl rfl HL.out ?_) | fail)
  exact bodyPost_ret (v := .agg #[.int .i64 4, .slice none 0 0]) (by simp [results, Try.results20, go_sem, q0, q1]) rfl (ResB.no ((B2.out.setCell (Nat.le_refl _) _).setCell (Nat.le_refl _) _))

set_option maxRecDepth 100000 in
set_option maxHeartbeats 800000 in
theorem implChunkFor_yes (a : Option Addr) (c n i : Nat) (D : Nat → Int) (P : Nat → List Int) (d : Int) (w : World) (h : RdC w a D P n) (hn : n ≤ 1048576) (hP : ∀ i, i < n → U8 (P i) ∧ (P i).length ≤ 1048576) (hF : fault D P n = 0) (hw : (Lit.int .i64 d).wf = true) (hi : i < n) (hd : D i = d) :
    Calls Try.prog 20 #[.slice a n c, .int .i64 d] w (ResB 0 (P i) w) := by
  have hfl := implFault_any a c n D P (w.alloc (.cells #[.int .i64 0, .slice none 0 0] 48)) (h.below (below_alloc _ _)) hn hP
  rw [hF] at hfl
  have HR := hide (fault_zero hF)
  obtain ⟨hl0, hl1⟩ := HR.out.u8len hi
  have HC := hide hfl
  have HA := hide h
  have HM : Hid ((d, P i) ∈ lst D P n) := lst_mem.2 ⟨i, hi, by rw [hd]⟩
  clear h hP hF hfl hd
  go_enter Try.func20, Try.ntmps20
  go_wp2_with fail
  refine HC.out.mono ?_
  rintro e w1 ⟨rfl, b1⟩
  have X1 := hide ((Box.new w (.int .i64 0) (.slice none 0 0) 48).below b1)
  have hs1 : w.heap.size < w1.heap.size := by have := b1.size; simp at this; omega
  have B1 := hide (below_next (below_alloc w (.cells #[.int .i64 0, .slice none 0 0] 48)) b1)
  clear b1 HC
  go_wp2_with fail
  refine (mapChunks_any a c n D P w1 (HA.out.below B1.out) HR.out).mono ?_
  rintro e w2 ⟨bm, rfl, hbm, H2, b2⟩
  obtain ⟨a2, c2, hrun, hr2, -⟩ := H2.yes HM.out hw 74 Try.underlying74
  have HL := hide (hrun true)
  generalize P i = xs at *
  have hs2 : w1.heap.size ≤ w2.heap.size := b2.size
  have X2 := hide ((X1.out.below b2).below (below_alloc _ (.cells #[.int .i64 d, .slice a2 xs.length c2] 53)))
  have R2 := hide (hr2.below (below_alloc _ (.cells #[.int .i64 d, .slice a2 xs.length c2] 53)))
  have B2 := hide (below_next (below_next B1.out b2) (below_alloc _ (.cells #[.int .i64 d, .slice a2 xs.length c2] 53)))
  clear b2 X1 H2 hrun hr2
  go_wp2_with (first | (at_lookup; refine wpList_look rfl _ _ 74 true rfl _ _ _ rfl rfl HL.out ?_; simp only [chv, if_true]) | fail)
  obtain ⟨b3, o3, rfl, hb3, hc3⟩ := R2.out (by intro e; subst e; simp at hl0)
  refine (clone_any b3 o3 c2 xs _ hc3 hb3 hl0 hl1 _ rfl).mono ?_
  rintro e w4 ⟨g, cc, rfl, hown4, hg4, hgl4, hb4⟩
  have HO4 := hide hown4
  obtain ⟨⟨q0, q1⟩, q2, q3⟩ := X2.out.below hb4
  have B4 := hide (below_next B2.out hb4)
  have hg5 : w2.heap.size + 1 ≤ g := by simpa using hg4
  clear hown4 hb4 hg4 hc3
  go_wp2_with fail
  refine bodyPost_ret (v := .agg #[.int .i64 0, .slice (some ⟨g, 0, none⟩) xs.length cc]) (by simp [results, Try.results20, go_sem, q0, q1]) rfl ⟨_, _, rfl, ?_, (B4.out.setCell (Nat.le_refl _) _).setCell (Nat.le_refl _) _⟩
  exact GB.mk (ownsRow_mono (ownsRow_kept (S := fun b => b = w.heap.size) HO4.out (Kept.two _ _ _ _ _ _) (fun b hb e => by simp only [Value.ownBlock, Option.some.injEq] at hb; omega)) (by simp; omega)) rfl

end Go.Proofs.Ytdebojhginiihaa
