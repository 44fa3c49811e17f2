/-
  Texts put together: CopF.
-/
import Derived.Test.YtejipahfodhmjaaGreatKLater13
namespace Go.Proofs.YtejipahfodhmjaaGreat
open Go.RowKit Go.Maps
set_option linter.unusedVariables false
attribute [local go_sem ↓] Go.wp_at_zero Go.wp_at_succ

theorem own_blockF {a : Option Addr} {n c g : Nat} (h : a.map Addr.block = some g) : (Value.slice a n c).ownBlock = some g := by
  cases a with
  | none => simp at h
  | some x => simpa [Value.ownBlock] using h
theorem GC.pushF {B : Nat} {w w1 w2 : World} {v v' : Value} {D : Nat → Int} {P : Nat → List Int} {j c : Nat} {av : Option Addr} {A : Nat → Option Addr} {C : Nat → Nat} {d : Int} {zs : List Int}
    (h1 : w.ownsRow B 108 2 v j (flat j (chCells D P A C)))
    (h2 : ∀ i, i < j → w.ownsRow B 5 1 (.slice (A i) (P i).length (C i)) (P i).length ((P i).map (Value.int .u8)))
    (h3 : ∀ i i' g, i < j → i' < j → (A i).map Addr.block = some g → (A i').map Addr.block = some g → i = i') (hB : B ≤ w.heap.size) (hbel : Below w.heap.size w w1)
    (hown : w1.ownsRow w.heap.size 5 1 (.slice av zs.length c) zs.length (zs.map (Value.int .u8)))
    (hv' : w2.ownsRow B 108 2 v' (j + 1) (flat j (chCells D P A C) ++ [.int .i64 d, .slice av zs.length c]))
    (hk : Kept (fun b => v.ownBlock = some b) w1 w2) : GC B w2.heap.size w2 v' (upd D j d) (upd P j zs) (j + 1) := by
  have hob : ∀ i, ∀ g', (A i).map Addr.block = some g' → (Value.slice (A i) (P i).length (C i)).ownBlock = some g' := fun i g' hg => by
    cases hA : A i with
    | none => rw [hA] at hg; simp at hg
    | some x => rw [hA] at hg; simpa [Value.ownBlock] using hg
  have hA : ∀ i g', i < j → (A i).map Addr.block = some g' → g' < w.heap.size := fun i g' hi hg => ((h2 i hi).lt g' (hob i g' hg)).2
  have hg0 : ∀ g, av.map Addr.block = some g → w.heap.size ≤ g ∧ g < w1.heap.size := fun g hg => hown.lt g (own_blockF hg)
  have k1 := ownsRow_below h1 hbel
  refine ⟨upd A j av, upd C j c, ?_, ?_, ?_, ?_, fun b hb => (hv'.lt b hb).2⟩
  · rw [flat_succ]
    have e : flat j (chCells (upd D j d) (upd P j zs) (upd A j av) (upd C j c)) = flat j (chCells D P A C) := flat_congr (fun i hi => by
      have : i ≠ j := by omega
      simp [chCells, upd_other _ _ _ this])
    rw [e]
    simpa [chCells, upd_same] using hv'
  · intro i hi
    by_cases e : i = j
    · subst e
      simp only [upd_same]
      exact ownsRow_kept (ownsRow_mono hown hB) hk (fun b hb hS => ownsRow_apart k1 hown (by decide) hS hb)
    · simp only [upd_other _ _ _ e]
      have k2 := ownsRow_below (h2 i (by omega)) hbel
      exact ownsRow_kept k2 hk (fun b hb hS => ownsRow_apart k1 k2 (by decide) hS hb)
  · intro i i' g' hi hi' e1 e2
    by_cases e : i = j
    · by_cases e' : i' = j
      · omega
      · rw [e, upd_same] at e1
        rw [upd_other _ _ _ e'] at e2
        have := hg0 g' e1
        have := hA i' g' (by omega) e2
        omega
    · by_cases e' : i' = j
      · rw [upd_other _ _ _ e] at e1
        rw [e', upd_same] at e2
        have := hg0 g' e2
        have := hA i g' (by omega) e1
        omega
      · rw [upd_other _ _ _ e] at e1
        rw [upd_other _ _ _ e'] at e2
        exact h3 i i' g' (by omega) (by omega) e1 e2
  · intro i g' hi e1
    have hsz := hk.size
    by_cases e : i = j
    · rw [e, upd_same] at e1
      have := hg0 g' e1
      omega
    · rw [upd_other _ _ _ e] at e1
      have h5 := hA i g' (by omega) e1
      have := hbel.size
      omega
theorem step_appF {P : Program} {w : World} {ops : Array Oper} {o : Oper} {a : Act} {K : Act → World → Prop} {Q : Exit → Act → World → Prop} {E : Prop} (hgd : o.guard = none) (s x : Operand) (t : TypeId)
    (ho : o.op = .call { callee := .builtin .append, args := #[s, x], argTypes := #[t, t] })
    (base : Nat) (e : TypeId) (i : TypeInfo) (z : Value) (size bytes : Nat) (ht : P.underlying t = some (.slice e)) (hi : P.info? e = some i) (hz : i.zero = some z)
    (hsize : i.size = size) (hby : i.bytes = bytes) (hzs : z.cells.size = size) (hsz : 0 < size)
    (g : Nat) (hs : a.eval s = .slice (some ⟨g, 0, none⟩) 0 0) (hown : w.ownsRow base e size (.slice (some ⟨g, 0, none⟩) 0 0) 0 [])
    (xa : Option Addr) (m c : Nat) (news : List Value) (hx : a.eval x = .slice xa m c) (hl : news.length = m * size) (hr : news ≠ [] → ∃ ad, xa = some ad ∧ ∀ j u, news[j]? = some u → w.cell? (ad.add j) = some u) (h1 : ∀ u ∈ news, u.oneCell' = true)
    (h63 : 0 + m ≤ maxLen) (hbytes : (0 + m) * bytes ≤ 140737488355328) (hbase : base ≤ w.heap.size)
    (h : ∀ av cv w', w'.ownsRow base e size (.slice av m cv) m news → Kept (fun b => b = g) w w' → K (a.put o.dst (.slice av m cv)) w') :
    if Region.wanted o (yielded ops a.tmps) = true then Oper.wp P o a w K Q else E := by
  have hw : Region.wanted o (yielded ops a.tmps) = true := by simp [Region.wanted, hgd]
  rw [if_pos hw]
  cases xa with
  | some ad =>
    refine wp_append_own w s x t ho base e i z size bytes ht hi hz hsize hby hzs hsz _ 0 [] hs hown ad m c news hx hl (fun j u hj => ?_) h1 h63 hbytes hbase fun v' w' h2 h3 _ => ?_
    · have h0 : news ≠ [] := fun e => by subst e; simp at hj
      obtain ⟨ad', e1, hc⟩ := hr h0
      simp only [Option.some.injEq] at e1
      subst e1
      exact hc j u hj
    · rw [List.nil_append, Nat.zero_add] at h2
      obtain ⟨av, cv, rfl⟩ := ownsRow_shape h2
      exact h av cv w' h2 ⟨h3.os, h3.tape, h3.output, h3.size, fun q hq hn => h3.block q hq (fun e => hn (by simp [Value.ownBlock] at e; omega))⟩
  | none =>
    have h0 : news = [] := by
      by_cases h0 : news = []
      · exact h0
      · obtain ⟨ad, e1, _⟩ := hr h0; cases e1
    subst h0
    have hm : m = 0 := by
      simp only [List.length_nil] at hl
      rcases Nat.mul_eq_zero.1 hl.symm with h2 | h2 <;> omega
    subst hm
    have hrun : (Builtin.append_ #[t, t] o.type #[.slice (some ⟨g, 0, none⟩) 0 0, .slice none 0 c]).run P w = .ok (.slice (some ⟨g, 0, none⟩) 0 0) w := by
      simp [Builtin.append_, run_underlying ht, sizeOf, typeInfo, hi, Builtin.lenOf, Builtin.firstCells, storeCells]
    unfold Oper.wp execOp
    simp only [ho, resolve, invoke, builtin, Sem.run_bind, Sem.run_pure, Result.andThen_ok, List.map_toArray, List.map_cons, List.map_nil, hs, hx, hrun]
    exact h _ _ w hown (Kept.refl _ _)
set_option maxRecDepth 100000 in
set_option maxHeartbeats 3200000 in
theorem l2Copy_atF (a : Option Addr) (c n : Nat) (D : Nat → Int) (P : Nat → List Int) (w : World) (h : RdC w a D P n) (hn : n ≤ 1048576) (hP : ∀ i, i < n → (P i).length ≤ 1048576) :
    Calls Tryz.prog 120 #[.slice a n c] w fun e w' => ∃ g cv, e = .returned (.slice (some ⟨g, 0, none⟩) n cv) ∧ n ≤ cv ∧ GC w.heap.size w'.heap.size w' (.slice (some ⟨g, 0, none⟩) n cv) D P n ∧ Below w.heap.size w w' := by
  obtain ⟨i1, ki, kz0, kz1, kz2⟩ := info_parts Tryz.infoCh
  obtain ⟨i0, hi0, hz0, hz1, hz2⟩ := info_parts Tryz.infoU8
  have HA := hide h
  have HP := hide hP
  clear h hP
  go_enter Tryz.func120, Tryz.ntmps120
  go_wp2
  go_loopw [3, 4] (fun v i wr => ∃ j : Nat, j ≤ n ∧ i = .int .i64 j ∧ GC w.heap.size wr.heap.size wr v D P j ∧ (∃ g, v.ownBlock = some g) ∧ Below w.heap.size w wr) (fun _ i _ => n - (intOf i).toNat)
  case atStart => exact ⟨0, Nat.zero_le _, rfl, ⟨fun _ => none, fun _ => 0, World.ownsRow_made w #[] 0 (Nat.le_refl _) (Nat.zero_le _) rfl, fun i hi => absurd hi (by omega), fun i i' g hi => absurd hi (by omega), fun i g hi => absurd hi (by omega), fun x hx => by simp [Value.ownBlock] at hx; subst hx; simp⟩, ⟨_, rfl⟩, below_alloc _ _⟩
  case round =>
    obtain ⟨j, hj, rfl, hG, hob, hbel⟩ := hrel
    obtain ⟨lv, lc, rfl⟩ := hG.shape
    have HW := hide hbel
    have HOb := hide hob
    have hsz := hbel.size
    clear hob
    by_cases hlt : j < n
    · obtain ⟨b1, o1, A1, C1, rfl, hb1, hc1⟩ := HA.out (by omega)
      obtain ⟨c1, e1, r1⟩ := hc1 j hlt
      have c1 := (hbel.cell (p := ⟨b1, o1 + j * 2, none⟩) hb1).trans c1
      have e1 := (hbel.cell (p := ⟨b1, o1 + j * 2 + 1, none⟩) hb1).trans e1
      have r1 := r1.below hbel
      have hp1 := HP.out j hlt
      have hj0 : (0 : Int) ≤ (j : Int) := by omega
      have hj1 : (j : Int) < (n : Int) := by omega
      obtain ⟨A, C, h1, h2, h3, h4, h5⟩ := hG
      have HA1 := hide h1
      have HA2 := hide h2
      have HA3 := hide h3
      generalize A1 j = a1 at e1 r1
      generalize C1 j = d1 at e1
      generalize hxs : P j = xs at *
      generalize hdd : D j = dd at *
      have HX := hide (And.intro hdd hxs)
      clear hxs hdd
      have hb1' : b1 < wr.heap.size := by omega
      have OWN0 : Hid ((wr.alloc (.cells #[] 5)).drew.ownsRow wr.heap.size 5 1 (.slice (some ⟨wr.heap.size, 0, none⟩) 0 0) 0 []) := World.ownsRow_made wr #[] 0 (Nat.le_refl _) (Nat.zero_le _) rfl
      have NEWS0 : Hid (xs.map (Value.int .u8) ≠ [] → ∃ ad, a1 = some ad ∧ ∀ j u, (xs.map (Value.int .u8))[j]? = some u → (wr.alloc (.cells #[] 5)).drew.cell? (ad.add j) = some u) := hide (fun hne => by
        obtain ⟨b2, o2, rfl, hb2, hc2⟩ := r1 (by intro e; subst e; exact hne rfl)
        exact ⟨_, rfl, reads_news (w := (wr.alloc (.cells #[] 5)).drew) (fun i hi => ((below_alloc wr (.cells #[] 5)).cell (p := ⟨b2, o2 + i, none⟩) hb2).trans (hc2 i hi))⟩)
      have KC : Hid (∀ (W w2 : World) (S : Nat → Prop), W.cell? ⟨b1, o1 + j * 2, none⟩ = some (.int .i64 dd) ∧ W.cell? ⟨b1, o1 + j * 2 + 1, none⟩ = some (.slice a1 xs.length d1) → Kept S W w2 → ¬ S b1 → w2.cell? ⟨b1, o1 + j * 2, none⟩ = some (.int .i64 dd) ∧ w2.cell? ⟨b1, o1 + j * 2 + 1, none⟩ = some (.slice a1 xs.length d1)) := by
        intro W w2 S hs hk hn
        have hlt := World.block_lt_of_cell? W ⟨b1, o1 + j * 2, none⟩ hs.1
        exact ⟨(hk.cell (p := ⟨b1, o1 + j * 2, none⟩) hlt hn).trans hs.1, (hk.cell (p := ⟨b1, o1 + j * 2 + 1, none⟩) hlt hn).trans hs.2⟩
      have hm0 : 0 + xs.length ≤ maxLen := by unfold maxLen; omega
      have hm0' : (0 + xs.length) * 1 ≤ 140737488355328 := by omega
      have hm1 : j + 1 ≤ maxLen := by unfold maxLen; omega
      have hm2 : (j + 1) * 32 ≤ 140737488355328 := by omega
      have hfar : ¬ (Value.slice (some ⟨wr.heap.size, 0, none⟩) 0 0).ownBlock = some b1 := by simp [Value.ownBlock]; omega
      have hfar2 : ¬ (Value.slice lv j lc).ownBlock = some b1 := fun hx => by have := (HA1.out.lt b1 hx).1; omega
      have hne1 : wr.heap.size ≠ b1 := by omega
      have hne1b : ¬ b1 = wr.heap.size := by omega
      clear h1 h2 h3 h4 h5 hc1 r1 hbel
      go_wp2_with fail
      go_region_held3 (fun w' => w'.cell? ⟨b1, o1 + j * 2, none⟩ = some (.int .i64 dd) ∧ w'.cell? ⟨b1, o1 + j * 2 + 1, none⟩ = some (.slice a1 xs.length d1))
        (first
          | exact KC.out _ _ _ (by assumption) (by assumption) hfar
          | exact KC.out _ _ _ (by assumption) (by assumption) hne1b
          | exact KC.out _ _ _ (by assumption) (by assumption) hfar2
          | go_keep)
        ((first
          | (refine step_appF (by rfl) (.tmp 18) (.tmp 23) 22 (by rfl) wr.heap.size 5 i0 (.int .u8 0) 1 1 Tryz.underlying22 hi0 hz0 hz1 hz2 rfl (by decide) wr.heap.size (by rfl) OWN0.out a1 xs.length d1 (xs.map (Value.int .u8)) (by rfl) (by simp) NEWS0.out (ints_one _ _) hm0 hm0' (by simp) ?_; intro av cv w1 hown1 hk1; have O1 := hide hown1; have BB1 := hide ((below_alloc wr (.cells #[] 5)).drew.trans (hk1.below (by simp) (fun k hk hS => by omega))); have hw1 : w1.heap.size ≠ b1 := (by have := BB1.out.size; omega); clear hown1)
          | (refine step_append_own (by rfl) (.tmp 12) (.tmp 26) 25 (by rfl) w.heap.size 108 i1 (.agg #[.int .i64 0, .slice none 0 0]) 2 32 Tryz.underlying25 ki kz0 kz1 kz2 rfl (by decide) (.slice lv j lc) j (flat j (chCells D P A C)) (by rfl) ((ownsRow_below HA1.out BB1.out).alloc _) ⟨w1.heap.size, 0, none⟩ 1 1 [.int .i64 dd, .slice av xs.length cv] (by rfl) (by rfl) (news_two rfl) (by intro u hu; simp at hu; rcases hu with rfl | rfl <;> rfl) (j + 1) rfl hm1 hm2 (by have := BB1.out.size; simp; omega) ?_; intro av2 cv2 w2 hown2 hk2; have O2 := hide hown2; have K2 := hide (((Kept.refl (fun b => (Value.slice lv j lc).ownBlock = some b) w1).alloc _).trans hk2); clear hown2)))
      go_wp2
      go_roundw
      case rel =>
        refine ⟨j + 1, by omega, by go_num, ?_, ?_, ?_⟩
        · refine (GC.pushF HA1.out HA2.out HA3.out hsz BB1.out O1.out O2.out K2.out).congr (fun i hi => ?_) (fun i hi => ?_)
          · by_cases e : i = j
            · subst e; rw [upd_same]; exact HX.out.1
            · rw [upd_other _ _ _ e]
          · by_cases e : i = j
            · subst e; rw [upd_same]; exact HX.out.2
            · rw [upd_other _ _ _ e]
        · obtain ⟨g5, h5, _⟩ := ownsRow_addr O2.out (.inl (by omega))
          exact ⟨g5, by rw [h5]; rfl⟩
        · exact (below_next' HW.out BB1.out).trans (K2.out.below (Nat.le_trans hsz BB1.out.size) (fun k hk hx => by have := (HA1.out.lt k hx).1; omega))
      case measure => simp [intOf]; omega
    · have hje : j = n := by omega
      subst hje
      obtain ⟨g5, h5, h6⟩ := hG.addr (.inr HOb.out)
      subst h5
      have HG := hide hG
      clear hG hbel
      go_wp2
      go_ret
      exact ⟨_, _, rfl, h6, HG.out, HW.out⟩
theorem l2Copy_anyF (a : Option Addr) (c n : Nat) (D : Nat → Int) (P : Nat → List Int) (w : World) (h : RdC w a D P n) (hn : n ≤ 1048576) (hP : ∀ i, i < n → (P i).length ≤ 1048576) :
    Calls Tryz.prog 120 #[.slice a n c] w fun e w' => ∃ av cv, e = .returned (.slice av n cv) ∧ GC w.heap.size w'.heap.size w' (.slice av n cv) D P n ∧ Below w.heap.size w w' :=
  (l2Copy_atF a c n D P w h hn hP).mono fun e w' ⟨g, cv, he, _, hG, hb⟩ => ⟨_, cv, he, hG, hb⟩
set_option maxRecDepth 100000 in
set_option maxHeartbeats 800000 in
theorem l2Put_there_atF (a : Option Addr) (c n : Nat) (D : Nat → Int) (P : Nat → List Int) (d : Int) (a2 : Option Addr) (n2 c2 : Nat) (w : World) (h : RdC w a D P n) (hn : n ≤ 1048576) (hP : ∀ i, i < n → (P i).length ≤ 1048576) (hd : ∃ i, i < n ∧ D i = d) :
    Calls Tryz.prog 121 #[.slice a n c, .int .i64 d, .slice a2 n2 c2] w fun e w' => ∃ g cv, e = .returned (.tuple #[.slice (some ⟨g, 0, none⟩) n cv, .bool true]) ∧ n ≤ cv ∧ GC w.heap.size w'.heap.size w' (.slice (some ⟨g, 0, none⟩) n cv) D P n ∧ Below w.heap.size w w' := by
  obtain ⟨i, hi, hdi, hf⟩ : ∃ i, i < n ∧ D i = d ∧ ∀ j, j < i → D j ≠ d := by
    clear h hP
    induction n with
    | zero => obtain ⟨i, hi, _⟩ := hd; omega
    | succ n ih =>
      by_cases h : ∃ i, i < n ∧ D i = d
      · obtain ⟨j, h1, h2, h3⟩ := ih (by omega) h
        exact ⟨j, by omega, h2, h3⟩
      · obtain ⟨i, hi, e⟩ := hd
        have hin : i = n := by
          rcases Nat.lt_or_ge i n with h' | h'
          · exact absurd ⟨i, h', e⟩ h
          · omega
        subst hin
        exact ⟨i, by omega, e, fun j hj ej => h ⟨j, hj, ej⟩⟩
  have hi0 : (0 : Int) ≤ (i : Int) := by omega
  have HY := hide (l2At_yes a c n i d D P w h hn hi hdi hf)
  have HC := hide (l2Copy_atF a c n D P w h hn hP)
  clear h hP hd hdi hf
  go_enter Tryz.func121, Tryz.ntmps121
  go_wp2_with fail
  refine HY.out.mono ?_
  rintro e w1 ⟨rfl, rfl⟩
  go_wp2_with fail
  refine HC.out.mono ?_
  rintro e w2 ⟨g, cv, rfl, hcv, hG, hb⟩
  have HG := hide hG
  have HB := hide hb
  clear hG hb
  go_wp2_with fail
  exact bodyPost_ret (v := .tuple #[.slice (some ⟨g, 0, none⟩) n cv, .bool true]) (by simp [results, Tryz.results121, go_sem]) rfl ⟨g, cv, rfl, hcv, HG.out, HB.out⟩
set_option maxRecDepth 100000 in
set_option maxHeartbeats 3200000 in
theorem l2Put_newF (b off c n m : Nat) (D : Nat → Int) (P : Nat → List Int) (d : Int) (a2 : Option Addr) (c2 : Nat) (zs : List Int) (w : World) (h : RdC w (some ⟨b, off, none⟩) D P n) (hcap : n ≤ c) (hn : n < 40) (hP : ∀ i, i < n → (P i).length ≤ 1048576) (h2 : Reads .u8 w a2 zs) (hz : 0 < zs.length ∧ zs.length ≤ 1048576)
    (hd : ∀ i, i < n → D i ≠ d) (hm : m ≤ n) (hlow : ∀ i, i < m → D i < d) (hhigh : m < n → ¬ D m < d) :
    Calls Tryz.prog 121 #[.slice (some ⟨b, off, none⟩) n c, .int .i64 d, .slice a2 zs.length c2] w fun e w' => ∃ av cv, e = .returned (.tuple #[.slice av (n + 1) cv, .bool true]) ∧ GC w.heap.size w'.heap.size w' (.slice av (n + 1) cv) (ins D m d) (ins P m zs) (n + 1) ∧ Below w.heap.size w w' := by
  obtain ⟨i1, ki, kz0, kz1, kz2⟩ := info_parts Tryz.infoCh
  have HY := hide (l2At_no (some ⟨b, off, none⟩) c n d D P w h (by omega) hd)
  obtain ⟨A, C, hAC⟩ : ∃ (A : Nat → Option Addr) (C : Nat → Nat), ∀ i, i < n → (w.cell? ⟨b, off + i * 2, none⟩ = some (.int .i64 (D i)) ∧ w.cell? ⟨b, off + i * 2 + 1, none⟩ = some (.slice (A i) (P i).length (C i))) ∧ Reads .u8 w (A i) (P i) ∧ b < w.heap.size := by
    by_cases h0 : 0 < n
    · obtain ⟨b', off', A, C, e, hb, hc⟩ := h h0
      simp only [Option.some.injEq, Addr.mk.injEq, and_true] at e
      obtain ⟨rfl, rfl⟩ := e
      exact ⟨A, C, fun i hi => ⟨⟨(hc i hi).1, (hc i hi).2.1⟩, (hc i hi).2.2, hb⟩⟩
    · exact ⟨fun _ => none, fun _ => 0, fun i hi => absurd hi (by omega)⟩
  have hc40 : ¬ (40 : Int) ≤ (n : Int) := by omega
  have HA := hide hAC
  have HP := hide hP
  have HR := hide h2
  have HL := hide hlow
  have HHi := hide hhigh
  clear h hP h2 hAC hd hlow hhigh
  go_enter Tryz.func121, Tryz.ntmps121
  go_wp2_with fail
  refine HY.out.mono ?_
  rintro e w1 ⟨rfl, rfl⟩
  go_wp2
  go_loop [8] (fun q => ∃ k : Nat, k ≤ m ∧ q = .int .i64 k) (fun q => n - (intOf q).toNat)
  case atStart => exact ⟨0, Nat.zero_le _, rfl⟩
  case round =>
    obtain ⟨k, hk, rfl⟩ := hrel
    by_cases hkm : k < m
    · have hkn : (k : Int) < (n : Int) := by omega
      obtain ⟨⟨c1, _⟩, _, _⟩ := HA.out k (by omega)
      have hdk := HL.out k hkm
      generalize D k = dd at c1 hdk
      go_wp2
      go_round
      case rel => exact ⟨k + 1, by omega, by go_num⟩
      case measure => simp [intOf]; omega
    · have hke : k = m := by omega
      subst hke
      have HFl := flat_length (n := k) (k := 2) (F := chCells D P A C) (fun i _ => rfl)
      have HFn := flat_length (n := n) (k := 2) (F := chCells D P A C) (fun i _ => rfl)
      have OWN0 : Hid ((w1.alloc (.cells #[] 108)).ownsRow w1.heap.size 108 2 (.slice (some ⟨w1.heap.size, 0, none⟩) 0 0) 0 []) := World.ownsRow_made w1 #[] 0 (Nat.le_refl _) (Nat.zero_le _) rfl
      have NEWS0 : Hid (∀ j u, (flat k (chCells D P A C))[j]? = some u → (w1.alloc (.cells #[] 108)).cell? ((⟨b, off, none⟩ : Addr).add j) = some u) := rdC_news0 (n := n) (fun i hi => ⟨((below_alloc w1 (.cells #[] 108)).cell (p := ⟨b, off + i * 2, none⟩) (HA.out i hi).2.2).trans (HA.out i hi).1.1, ((below_alloc w1 (.cells #[] 108)).cell (p := ⟨b, off + i * 2 + 1, none⟩) (HA.out i hi).2.2).trans (HA.out i hi).1.2⟩) k hm
      have hm0 : 0 + k ≤ maxLen := by unfold maxLen; omega
      have hm0' : (0 + k) * 32 ≤ 140737488355328 := by omega
      have hkc : (k : Int) ≤ (c : Int) := by omega
      have hkn' : (k : Int) ≤ (n : Int) := by omega
      have hnc' : (n : Int) ≤ (c : Int) := by omega
      by_cases hkn : k < n
      · have hkn2 : (k : Int) < (n : Int) := by omega
        obtain ⟨⟨c1, _⟩, _, _⟩ := HA.out k hkn
        have hdk := HHi.out hkn
        have HDD := hide c1
        generalize D k = dd at c1 hdk
        go_wp2_with (first | (at_builtin; refine wpList_append_N rfl (.tmp 34) (.tmp 37) 25 rfl w1.heap.size 108 i1 (.agg #[.int .i64 0, .slice none 0 0]) 2 32 Tryz.underlying25 ki kz0 kz1 kz2 rfl (by decide) (.slice (some ⟨w1.heap.size, 0, none⟩) 0 0) 0 [] rfl OWN0.out ⟨b, off, none⟩ k c (flat k (chCells D P A C)) rfl HFl NEWS0.out (flat_one _ _ _ _ _) k (by simp) hm0 hm0' (by simp) ?_; intro av cv w2 hown2 hk2; have O2 := hide hown2; have K2 := hide hk2; clear hown2 hk2) | fail)
        have hckf : ¬ c = k := by omega
        have BB2 := hide ((below_alloc w1 (.cells #[] 108)).trans (K2.out.below (by simp) (fun q hq hS => by simp [Value.ownBlock] at hS; omega)))
        have OWN1 : Hid ((w2.alloc (.cells #[.int .i64 d, .slice a2 zs.length c2] 108)).drew.ownsRow w1.heap.size 108 2 (.slice av k cv) k ([] ++ flat k (chCells D P A C))) := ownsRow_below O2.out (below_alloc _ _).drew
        have NEWS1 : Hid (∀ j u, [Value.int .i64 d, .slice a2 zs.length c2][j]? = some u → (w2.alloc (.cells #[.int .i64 d, .slice a2 zs.length c2] 108)).drew.cell? ((⟨w2.heap.size, 0, none⟩ : Addr).add j) = some u) := news_two (t := 108) rfl
        have NEWS2 : Hid (∀ w3 : World, Below w1.heap.size w1 w3 → ∀ j u, ((flat n (chCells D P A C)).drop (k * 2))[j]? = some u → w3.cell? ((⟨b, off + k * 2, none⟩ : Addr).add j) = some u) := fun w3 hb3 => rdC_news (n := n) (fun i hi => ⟨(hb3.cell (p := ⟨b, off + i * 2, none⟩) (HA.out i hi).2.2).trans (HA.out i hi).1.1, (hb3.cell (p := ⟨b, off + i * 2 + 1, none⟩) (HA.out i hi).2.2).trans (HA.out i hi).1.2⟩) k
        have hs2 := BB2.out.size
        have hnl : ((flat n (chCells D P A C)).drop (k * 2)).length = (n - k) * 2 := by rw [List.length_drop, HFn]; omega
        have hk1' : k + 1 + (n - k) = n + 1 := by omega
        have hm1 : k + 1 ≤ maxLen := by unfold maxLen; omega
        have hm1' : (k + 1) * 32 ≤ 140737488355328 := by omega
        have hm2 : k + 1 + (n - k) ≤ maxLen := by unfold maxLen; omega
        have hm2' : (k + 1 + (n - k)) * 32 ≤ 140737488355328 := by omega
        have hk0 : (0 : Int) ≤ (k : Int) := by omega
        have HON := hide (fun u (hu : u ∈ (flat n (chCells D P A C)).drop (k * 2)) => flat_one n D P A C u (List.mem_of_mem_drop hu))
        go_region_held3 (fun _ => True) (trivial)
          ((first
            | (refine step_append_own (by rfl) (.tmp 39) (.tmp 43) 25 (by rfl) w1.heap.size 108 i1 (.agg #[.int .i64 0, .slice none 0 0]) 2 32 Tryz.underlying25 ki kz0 kz1 kz2 rfl (by decide) (.slice av k cv) k ([] ++ flat k (chCells D P A C)) (by rfl) OWN1.out ⟨w2.heap.size, 0, none⟩ 1 1 [.int .i64 d, .slice a2 zs.length c2] (by rfl) (by rfl) NEWS1.out (by intro u hu; simp at hu; rcases hu with rfl | rfl <;> rfl) (k + 1) rfl hm1 hm1' (by simp; omega) ?_; intro av2 cv2 w3 hown3 hk3; have O3 := hide hown3; have BB3 := hide (BB2.out.trans ((((Kept.refl (fun x => (Value.slice av k cv).ownBlock = some x) w2).alloc _).drew.trans hk3).below hs2 (fun q hq hS => by have := (O2.out.lt q hS).1; omega))); clear hown3 hk3)
            | (refine step_append_own (by rfl) (.tmp 44) (.tmp 47) 25 (by rfl) w1.heap.size 108 i1 (.agg #[.int .i64 0, .slice none 0 0]) 2 32 Tryz.underlying25 ki kz0 kz1 kz2 rfl (by decide) (.slice av2 (k + 1) cv2) (k + 1) (([] ++ flat k (chCells D P A C)) ++ [.int .i64 d, .slice a2 zs.length c2]) (by rfl) O3.out ⟨b, off + k * 2, none⟩ (n - k) (c - k) ((flat n (chCells D P A C)).drop (k * 2)) (by rfl) hnl (NEWS2.out w3 BB3.out) HON.out (n + 1) hk1' hm2 hm2' BB3.out.size ?_; intro av3 cv3 w4 hown4 hk4; have O4 := hide hown4; have BB4 := hide (BB3.out.trans (hk4.below BB3.out.size (fun q hq hS => by have := (O3.out.lt q hS).1; omega))); clear hown4 hk4)))
        have O5 : Hid (w4.ownsRow w1.heap.size 108 2 (.slice av3 (n + 1) cv3) (n + 1) (flat (n + 1) (chCells (ins D k d) (ins P k zs) (ins A k a2) (ins C k c2)))) := by rw [ins_flat D P A C hm d zs a2 c2]; exact O4.out
        have RD5 : Hid (RdC w4 av3 (ins D k d) (ins P k zs) (n + 1)) := RdC.of_rows O5.out (fun i hi => by
          by_cases e1 : i < k
          · simp only [ins, if_pos e1]; exact (HA.out i (by omega)).2.1.below BB4.out
          · by_cases e2 : i = k
            · simp only [ins, if_neg e1, if_pos e2]; exact HR.out.below BB4.out
            · simp only [ins, if_neg e1, if_neg e2]; exact (HA.out (i - 1) (by omega)).2.1.below BB4.out)
        have HP5 : Hid (∀ i, i < n + 1 → (ins P k zs i).length ≤ 1048576) := fun i hi => by
          by_cases e1 : i < k
          · simp only [ins, if_pos e1]; exact HP.out i (by omega)
          · by_cases e2 : i = k
            · simp only [ins, if_neg e1, if_pos e2]; exact hz.2
            · simp only [ins, if_neg e1, if_neg e2]; exact HP.out (i - 1) (by omega)
        clear O5 O4 O3 BB3 BB2 OWN1 NEWS1 NEWS2
        go_wp2_with fail
        refine (l2Copy_anyF av3 cv3 (n + 1) _ _ w4 RD5.out (by omega) HP5.out).mono ?_
        rintro e w5 ⟨av5, cv5, rfl, hG, hb⟩
        have HG := hide (hG.mono BB4.out.size)
        have HB := hide (below_next BB4.out hb)
        clear hG hb
        go_wp2_with fail
        exact bodyPost_ret (v := .tuple #[.slice av5 (n + 1) cv5, .bool true]) (by simp [results, Tryz.results121, go_sem]) rfl ⟨av5, cv5, rfl, HG.out, HB.out⟩
      · have hkn2 : ¬ (k : Int) < (n : Int) := by omega
        by_cases hck : c = k
        · obtain rfl : k = c := hck.symm
          go_wp2_with (first | (at_builtin; refine wpList_append_N rfl (.tmp 34) (.tmp 37) 25 rfl w1.heap.size 108 i1 (.agg #[.int .i64 0, .slice none 0 0]) 2 32 Tryz.underlying25 ki kz0 kz1 kz2 rfl (by decide) (.slice (some ⟨w1.heap.size, 0, none⟩) 0 0) 0 [] rfl OWN0.out ⟨b, off, none⟩ k k (flat k (chCells D P A C)) rfl HFl NEWS0.out (flat_one _ _ _ _ _) k (by simp) hm0 hm0' (by simp) ?_; intro av cv w2 hown2 hk2; have O2 := hide hown2; have K2 := hide hk2; clear hown2 hk2) | fail)
          have BB2 := hide ((below_alloc w1 (.cells #[] 108)).trans (K2.out.below (by simp) (fun q hq hS => by simp [Value.ownBlock] at hS; omega)))
          have OWN1 : Hid ((w2.alloc (.cells #[.int .i64 d, .slice a2 zs.length c2] 108)).drew.ownsRow w1.heap.size 108 2 (.slice av k cv) k ([] ++ flat k (chCells D P A C))) := ownsRow_below O2.out (below_alloc _ _).drew
          have NEWS1 : Hid (∀ j u, [Value.int .i64 d, .slice a2 zs.length c2][j]? = some u → (w2.alloc (.cells #[.int .i64 d, .slice a2 zs.length c2] 108)).drew.cell? ((⟨w2.heap.size, 0, none⟩ : Addr).add j) = some u) := news_two (t := 108) rfl
          have NEWS2 : Hid (∀ w3 : World, Below w1.heap.size w1 w3 → ∀ j u, ((flat n (chCells D P A C)).drop (k * 2))[j]? = some u → w3.cell? ((⟨b, off, none⟩ : Addr).add j) = some u) := fun w3 hb3 => fun j u hj => by rw [List.drop_eq_nil_of_le (by rw [HFn]; omega)] at hj; simp at hj
          have hs2 := BB2.out.size
          have hnl : ((flat n (chCells D P A C)).drop (k * 2)).length = 0 * 2 := by rw [List.length_drop, HFn]; omega
          have hk1' : k + 1 + 0 = n + 1 := by omega
          have hm1 : k + 1 ≤ maxLen := by unfold maxLen; omega
          have hm1' : (k + 1) * 32 ≤ 140737488355328 := by omega
          have hm2 : k + 1 + 0 ≤ maxLen := by unfold maxLen; omega
          have hm2' : (k + 1 + 0) * 32 ≤ 140737488355328 := by omega
          have hk0 : (0 : Int) ≤ (k : Int) := by omega
          have HON := hide (fun u (hu : u ∈ (flat n (chCells D P A C)).drop (k * 2)) => flat_one n D P A C u (List.mem_of_mem_drop hu))
          go_region_held3 (fun _ => True) (trivial)
            ((first
              | (refine step_append_own (by rfl) (.tmp 39) (.tmp 43) 25 (by rfl) w1.heap.size 108 i1 (.agg #[.int .i64 0, .slice none 0 0]) 2 32 Tryz.underlying25 ki kz0 kz1 kz2 rfl (by decide) (.slice av k cv) k ([] ++ flat k (chCells D P A C)) (by rfl) OWN1.out ⟨w2.heap.size, 0, none⟩ 1 1 [.int .i64 d, .slice a2 zs.length c2] (by rfl) (by rfl) NEWS1.out (by intro u hu; simp at hu; rcases hu with rfl | rfl <;> rfl) (k + 1) rfl hm1 hm1' (by simp; omega) ?_; intro av2 cv2 w3 hown3 hk3; have O3 := hide hown3; have BB3 := hide (BB2.out.trans ((((Kept.refl (fun x => (Value.slice av k cv).ownBlock = some x) w2).alloc _).drew.trans hk3).below hs2 (fun q hq hS => by have := (O2.out.lt q hS).1; omega))); clear hown3 hk3)
              | (refine step_append_own (by rfl) (.tmp 44) (.tmp 47) 25 (by rfl) w1.heap.size 108 i1 (.agg #[.int .i64 0, .slice none 0 0]) 2 32 Tryz.underlying25 ki kz0 kz1 kz2 rfl (by decide) (.slice av2 (k + 1) cv2) (k + 1) (([] ++ flat k (chCells D P A C)) ++ [.int .i64 d, .slice a2 zs.length c2]) (by rfl) O3.out ⟨b, off, none⟩ 0 0 ((flat n (chCells D P A C)).drop (k * 2)) (by rfl) hnl (NEWS2.out w3 BB3.out) HON.out (n + 1) hk1' hm2 hm2' BB3.out.size ?_; intro av3 cv3 w4 hown4 hk4; have O4 := hide hown4; have BB4 := hide (BB3.out.trans (hk4.below BB3.out.size (fun q hq hS => by have := (O3.out.lt q hS).1; omega))); clear hown4 hk4)))
          have O5 : Hid (w4.ownsRow w1.heap.size 108 2 (.slice av3 (n + 1) cv3) (n + 1) (flat (n + 1) (chCells (ins D k d) (ins P k zs) (ins A k a2) (ins C k c2)))) := by rw [ins_flat D P A C hm d zs a2 c2]; exact O4.out
          have RD5 : Hid (RdC w4 av3 (ins D k d) (ins P k zs) (n + 1)) := RdC.of_rows O5.out (fun i hi => by
            by_cases e1 : i < k
            · simp only [ins, if_pos e1]; exact (HA.out i (by omega)).2.1.below BB4.out
            · by_cases e2 : i = k
              · simp only [ins, if_neg e1, if_pos e2]; exact HR.out.below BB4.out
              · simp only [ins, if_neg e1, if_neg e2]; exact (HA.out (i - 1) (by omega)).2.1.below BB4.out)
          have HP5 : Hid (∀ i, i < n + 1 → (ins P k zs i).length ≤ 1048576) := fun i hi => by
            by_cases e1 : i < k
            · simp only [ins, if_pos e1]; exact HP.out i (by omega)
            · by_cases e2 : i = k
              · simp only [ins, if_neg e1, if_pos e2]; exact hz.2
              · simp only [ins, if_neg e1, if_neg e2]; exact HP.out (i - 1) (by omega)
          clear O5 O4 O3 BB3 BB2 OWN1 NEWS1 NEWS2
          go_wp2_with fail
          refine (l2Copy_anyF av3 cv3 (n + 1) _ _ w4 RD5.out (by omega) HP5.out).mono ?_
          rintro e w5 ⟨av5, cv5, rfl, hG, hb⟩
          have HG := hide (hG.mono BB4.out.size)
          have HB := hide (below_next BB4.out hb)
          clear hG hb
          go_wp2_with fail
          exact bodyPost_ret (v := .tuple #[.slice av5 (n + 1) cv5, .bool true]) (by simp [results, Tryz.results121, go_sem]) rfl ⟨av5, cv5, rfl, HG.out, HB.out⟩
        · have hckf : ¬ c = k := hck
          go_wp2_with (first | (at_builtin; refine wpList_append_N rfl (.tmp 34) (.tmp 37) 25 rfl w1.heap.size 108 i1 (.agg #[.int .i64 0, .slice none 0 0]) 2 32 Tryz.underlying25 ki kz0 kz1 kz2 rfl (by decide) (.slice (some ⟨w1.heap.size, 0, none⟩) 0 0) 0 [] rfl OWN0.out ⟨b, off, none⟩ k c (flat k (chCells D P A C)) rfl HFl NEWS0.out (flat_one _ _ _ _ _) k (by simp) hm0 hm0' (by simp) ?_; intro av cv w2 hown2 hk2; have O2 := hide hown2; have K2 := hide hk2; clear hown2 hk2) | fail)
          have BB2 := hide ((below_alloc w1 (.cells #[] 108)).trans (K2.out.below (by simp) (fun q hq hS => by simp [Value.ownBlock] at hS; omega)))
          have OWN1 : Hid ((w2.alloc (.cells #[.int .i64 d, .slice a2 zs.length c2] 108)).drew.ownsRow w1.heap.size 108 2 (.slice av k cv) k ([] ++ flat k (chCells D P A C))) := ownsRow_below O2.out (below_alloc _ _).drew
          have NEWS1 : Hid (∀ j u, [Value.int .i64 d, .slice a2 zs.length c2][j]? = some u → (w2.alloc (.cells #[.int .i64 d, .slice a2 zs.length c2] 108)).drew.cell? ((⟨w2.heap.size, 0, none⟩ : Addr).add j) = some u) := news_two (t := 108) rfl
          have NEWS2 : Hid (∀ w3 : World, Below w1.heap.size w1 w3 → ∀ j u, ((flat n (chCells D P A C)).drop (k * 2))[j]? = some u → w3.cell? ((⟨b, off + k * 2, none⟩ : Addr).add j) = some u) := fun w3 hb3 => rdC_news (n := n) (fun i hi => ⟨(hb3.cell (p := ⟨b, off + i * 2, none⟩) (HA.out i hi).2.2).trans (HA.out i hi).1.1, (hb3.cell (p := ⟨b, off + i * 2 + 1, none⟩) (HA.out i hi).2.2).trans (HA.out i hi).1.2⟩) k
          have hs2 := BB2.out.size
          have hnl : ((flat n (chCells D P A C)).drop (k * 2)).length = (n - k) * 2 := by rw [List.length_drop, HFn]; omega
          have hk1' : k + 1 + (n - k) = n + 1 := by omega
          have hm1 : k + 1 ≤ maxLen := by unfold maxLen; omega
          have hm1' : (k + 1) * 32 ≤ 140737488355328 := by omega
          have hm2 : k + 1 + (n - k) ≤ maxLen := by unfold maxLen; omega
          have hm2' : (k + 1 + (n - k)) * 32 ≤ 140737488355328 := by omega
          have hk0 : (0 : Int) ≤ (k : Int) := by omega
          have HON := hide (fun u (hu : u ∈ (flat n (chCells D P A C)).drop (k * 2)) => flat_one n D P A C u (List.mem_of_mem_drop hu))
          go_region_held3 (fun _ => True) (trivial)
            ((first
              | (refine step_append_own (by rfl) (.tmp 39) (.tmp 43) 25 (by rfl) w1.heap.size 108 i1 (.agg #[.int .i64 0, .slice none 0 0]) 2 32 Tryz.underlying25 ki kz0 kz1 kz2 rfl (by decide) (.slice av k cv) k ([] ++ flat k (chCells D P A C)) (by rfl) OWN1.out ⟨w2.heap.size, 0, none⟩ 1 1 [.int .i64 d, .slice a2 zs.length c2] (by rfl) (by rfl) NEWS1.out (by intro u hu; simp at hu; rcases hu with rfl | rfl <;> rfl) (k + 1) rfl hm1 hm1' (by simp; omega) ?_; intro av2 cv2 w3 hown3 hk3; have O3 := hide hown3; have BB3 := hide (BB2.out.trans ((((Kept.refl (fun x => (Value.slice av k cv).ownBlock = some x) w2).alloc _).drew.trans hk3).below hs2 (fun q hq hS => by have := (O2.out.lt q hS).1; omega))); clear hown3 hk3)
              | (refine step_append_own (by rfl) (.tmp 44) (.tmp 47) 25 (by rfl) w1.heap.size 108 i1 (.agg #[.int .i64 0, .slice none 0 0]) 2 32 Tryz.underlying25 ki kz0 kz1 kz2 rfl (by decide) (.slice av2 (k + 1) cv2) (k + 1) (([] ++ flat k (chCells D P A C)) ++ [.int .i64 d, .slice a2 zs.length c2]) (by rfl) O3.out ⟨b, off + k * 2, none⟩ (n - k) (c - k) ((flat n (chCells D P A C)).drop (k * 2)) (by rfl) hnl (NEWS2.out w3 BB3.out) HON.out (n + 1) hk1' hm2 hm2' BB3.out.size ?_; intro av3 cv3 w4 hown4 hk4; have O4 := hide hown4; have BB4 := hide (BB3.out.trans (hk4.below BB3.out.size (fun q hq hS => by have := (O3.out.lt q hS).1; omega))); clear hown4 hk4)))
          have O5 : Hid (w4.ownsRow w1.heap.size 108 2 (.slice av3 (n + 1) cv3) (n + 1) (flat (n + 1) (chCells (ins D k d) (ins P k zs) (ins A k a2) (ins C k c2)))) := by rw [ins_flat D P A C hm d zs a2 c2]; exact O4.out
          have RD5 : Hid (RdC w4 av3 (ins D k d) (ins P k zs) (n + 1)) := RdC.of_rows O5.out (fun i hi => by
            by_cases e1 : i < k
            · simp only [ins, if_pos e1]; exact (HA.out i (by omega)).2.1.below BB4.out
            · by_cases e2 : i = k
              · simp only [ins, if_neg e1, if_pos e2]; exact HR.out.below BB4.out
              · simp only [ins, if_neg e1, if_neg e2]; exact (HA.out (i - 1) (by omega)).2.1.below BB4.out)
          have HP5 : Hid (∀ i, i < n + 1 → (ins P k zs i).length ≤ 1048576) := fun i hi => by
            by_cases e1 : i < k
            · simp only [ins, if_pos e1]; exact HP.out i (by omega)
            · by_cases e2 : i = k
              · simp only [ins, if_neg e1, if_pos e2]; exact hz.2
              · simp only [ins, if_neg e1, if_neg e2]; exact HP.out (i - 1) (by omega)
          clear O5 O4 O3 BB3 BB2 OWN1 NEWS1 NEWS2
          go_wp2_with fail
          refine (l2Copy_anyF av3 cv3 (n + 1) _ _ w4 RD5.out (by omega) HP5.out).mono ?_
          rintro e w5 ⟨av5, cv5, rfl, hG, hb⟩
          have HG := hide (hG.mono BB4.out.size)
          have HB := hide (below_next BB4.out hb)
          clear hG hb
          go_wp2_with fail
          exact bodyPost_ret (v := .tuple #[.slice av5 (n + 1) cv5, .bool true]) (by simp [results, Tryz.results121, go_sem]) rfl ⟨av5, cv5, rfl, HG.out, HB.out⟩
set_option maxRecDepth 100000 in
set_option maxHeartbeats 6400000 in
theorem l2Bytes_weak (a : Option Addr) (c n : Nat) (D : Nat → Int) (P : Nat → List Int) (a2 : Option Addr) (c2 : Nat) (zs : List Int) (w : World) (h : RdC w a D P n) (hn : n ≤ 1000) (hP : ∀ i, i < n → (P i).length ≤ 1048576) (h2 : Reads .u8 w a2 zs) (hu : U8 zs) (hcap : zs.length ≤ c2) (hl : zs.length ≤ 1000) :
    Calls Tryz.prog 80 #[.slice a n c, .slice a2 zs.length c2] w fun e w' => (∃ v b, e = .returned (.tuple #[v, .bool b])) ∧ Below w.heap.size w w' := by
  have HA := hide h
  have HP := hide hP
  have HR := hide h2
  have HU := hide hu
  have hN : (cut zs).length ≤ 1000 := by rw [cut_length]; omega
  have HPL : Hid (∀ j, j < (cut zs).length → 1 ≤ (piece zs j).length ∧ (piece zs j).length ≤ 8) := fun j hj => by rw [cut_length] at hj; rw [piece_length]; omega
  have HC := hide (l1Cut_any a2 c2 zs w h2 hcap (by omega))
  generalize hNN : (cut zs).length = N at *
  clear h hP h2 hu hNN
  go_enter Tryz.func80, Tryz.ntmps80
  go_wp2_with fail
  refine HC.out.mono ?_
  rintro e w1 ⟨pv, rfl, hG1, b1⟩
  obtain ⟨pa, pc, rfl⟩ := hG1.shape
  have G1 := hide hG1
  have B1 := hide b1
  have hs1 := b1.size
  clear hG1 b1 HC
  go_wp2_with fail
  refine (l2Copy_atF a c n D P w1 (HA.out.below B1.out) (by omega) HP.out).mono ?_
  rintro e w2 ⟨g2, cv2, rfl, hcv2, hG2, b2⟩
  have hs2 := b2.size
  have C2 := hide (hG2.mono hs1)
  have G2 := hide (G1.out.below b2)
  have B2 := hide (below_next B1.out b2)
  clear hG2 b2 G1 B1
  go_wp2
  go_loopw [7, 8, 9, 10] (fun v i _ _ wr => ∃ (j : Nat) (D1 : Nat → Int) (P1 : Nat → List Int) (n1 : Nat) (g cv : Nat), j ≤ N ∧ i = .int .i64 j ∧ v = .slice (some ⟨g, 0, none⟩) n1 cv ∧ n1 ≤ cv ∧ n1 ≤ n + j ∧ Hid (∀ i, i < n1 → (P1 i).length ≤ 1048576) ∧ Hid (GC w.heap.size wr.heap.size wr (.slice (some ⟨g, 0, none⟩) n1 cv) D1 P1 n1) ∧ Hid (Grow2 w.heap.size wr (.slice pa N pc) (piece zs) N) ∧ Hid (Below w.heap.size w wr)) (fun _ i _ _ _ => N - (intOf i).toNat)
  case atStart => exact ⟨0, D, P, n, g2, cv2, Nat.zero_le _, rfl, rfl, hcv2, by omega, HP, C2, G2, B2⟩
  case round =>
    obtain ⟨j, D1, P1, n1, g, cv, hj, rfl, rfl, hcv, hnj, HP1, HG, HPr, HW⟩ := hrel
    have hsz := HW.out.size
    clear C2 G2 B2
    by_cases hlt : j < N
    · obtain ⟨gp, x, dx, rfl, hc0, hr0⟩ := HPr.out.at hlt
      have hpl := HPL.out j hlt
      have HUz := hide (HU.out.piece j)
      have hgp : gp < wr.heap.size := World.block_lt_of_cell? wr ⟨gp, j, none⟩ hc0
      have hj0 : (0 : Int) ≤ (j : Int) := by omega
      have hj1 : (j : Int) < (N : Int) := by omega
      generalize piece zs j = z at *
      have HDg := hide (specDigestOf_any x dx z wr.drew hr0 HUz.out (by omega))
      have HRz := hide hr0
      clear hr0
      generalize digest z = dz at *
      by_cases hd : ∃ i, i < n1 ∧ D1 i = dz
      · have HPt := hide (l2Put_there_atF (some ⟨g, 0, none⟩) cv n1 D1 P1 dz x z.length dx wr.drew HG.out.rd (by omega) HP1.out hd)
        clear hd
        go_wp2_with fail
        go_region_held3 (fun w' => w'.cell? ⟨gp, j, none⟩ = some (.slice x z.length dx)) (first | trivial | go_keep | (exact (hbp.cell (p := ⟨gp, j, none⟩) hgp).trans hc0))
          ((first
            | (go_at_call 122; refine HDg.out.mono ?_; rintro e w1' ⟨rfl, rfl⟩)
            | (go_at_call 121; refine HPt.out.mono ?_; rintro e w3 ⟨g3, cv3, rfl, hcv3, hG3, hbp⟩; have C3 := hide hG3; have BB3 := hide (((Below.refl wr.heap.size wr).drew).trans hbp); clear hG3)))
        clear hbp
        go_wp2
        go_roundw
        case rel => exact ⟨j + 1, D1, P1, n1, g3, cv3, by omega, by go_num, rfl, hcv3, by omega, HP1, hide (C3.out.mono hsz), hide (HPr.out.below BB3.out), hide (below_next' HW.out BB3.out)⟩
        case measure => simp [intOf]; omega
      · have hd2 : ∀ i, i < n1 → D1 i ≠ dz := fun i hi e => hd ⟨i, hi, e⟩
        clear hd
        by_cases hf : 40 ≤ n1
        · have HPt := hide (l2Put_full (some ⟨g, 0, none⟩) cv n1 D1 P1 dz x z.length dx wr.drew HG.out.rd (by omega) hd2 hf)
          clear hd2
          go_wp2_with fail
          go_region_held3 (fun w' => w'.cell? ⟨gp, j, none⟩ = some (.slice x z.length dx)) (first | trivial | go_keep | (exact (hbp.cell (p := ⟨gp, j, none⟩) hgp).trans hc0))
            ((first
              | (go_at_call 122; refine HDg.out.mono ?_; rintro e w1' ⟨rfl, rfl⟩)
              | (go_at_call 121; refine HPt.out.mono ?_; rintro e w3 ⟨rfl, hbp⟩; have BB3 := hide (((Below.refl wr.heap.size wr).drew).trans hbp))))
          clear hbp
          go_wp2
          exact bodyPost_ret (v := .tuple #[.slice none 0 0, .bool false]) (by simp [results, Tryz.results80, go_sem]) rfl ⟨⟨_, _, rfl⟩, below_next' HW.out BB3.out⟩
        · obtain ⟨p1, p2, p3⟩ := plc_ok D1 dz n1
          have HPt := hide (l2Put_newF g 0 cv n1 (plc D1 dz n1) D1 P1 dz x dx z wr.drew HG.out.rd hcv (by omega) HP1.out HRz.out ⟨by omega, by omega⟩ hd2 p1 p2 p3)
          have HP2 := hide (show ∀ i, i < n1 + 1 → (ins P1 (plc D1 dz n1) z i).length ≤ 1048576 from fun i hi => by
            by_cases e1 : i < plc D1 dz n1
            · simp only [ins, if_pos e1]; exact HP1.out i (by omega)
            · by_cases e2 : i = plc D1 dz n1
              · simp only [ins, if_neg e1, if_pos e2]; omega
              · simp only [ins, if_neg e1, if_neg e2]; exact HP1.out (i - 1) (by omega))
          generalize ins P1 (plc D1 dz n1) z = P2 at *
          generalize ins D1 (plc D1 dz n1) dz = D2 at *
          clear hd2 p1 p2 p3
          obtain ⟨n2, hn2⟩ : ∃ n2, n2 = n1 + 1 := ⟨_, rfl⟩
          rw [← hn2] at HPt HP2
          have hn2p : 0 < n2 := by omega
          have hn2q : n2 ≤ n + (j + 1) := by omega
          clear hn2
          go_wp2_with fail
          go_region_held3 (fun w' => w'.cell? ⟨gp, j, none⟩ = some (.slice x z.length dx)) (first | trivial | go_keep | (exact (hbp.cell (p := ⟨gp, j, none⟩) hgp).trans hc0))
            ((first
              | (go_at_call 122; refine HDg.out.mono ?_; rintro e w1' ⟨rfl, rfl⟩)
              | (go_at_call 121; refine HPt.out.mono ?_; rintro e w3 ⟨av3, cv3, rfl, hG3, hbp⟩; obtain ⟨g3, h3, hcv3⟩ := hG3.addr (.inl hn2p); subst h3; have C3 := hide hG3; have BB3 := hide (((Below.refl wr.heap.size wr).drew).trans hbp); clear hG3)))
          clear hbp
          go_wp2
          go_roundw
          case rel => exact ⟨j + 1, D2, P2, n2, g3, cv3, by omega, by go_num, rfl, hcv3, hn2q, HP2, hide (C3.out.mono hsz), hide (HPr.out.below BB3.out), hide (below_next' HW.out BB3.out)⟩
          case measure => simp [intOf]; omega
    · go_wp2
      exact bodyPost_ret (v := .tuple #[.slice (some ⟨g, 0, none⟩) n1 cv, .bool true]) (by simp [results, Tryz.results80, go_sem]) rfl ⟨⟨_, _, rfl⟩, HW.out⟩
end Go.Proofs.YtejipahfodhmjaaGreat

