/-
  Contracts of the model's functions on lists of chunks: a copy.
-/
import Derived.Test.YtdebojhginiihaaRise
import Derived.Deep.RegionHeld3
import Derived.Deep.AppendLies
import Derived.Deep.DrawnRows
namespace Go.Proofs.Ytdebojhginiihaa
open Go.RowKit Go.Maps
set_option linter.unusedVariables false
attribute [local go_sem ↓] Go.wp_at_zero Go.wp_at_succ

/-- append on an owned row, at a step of a region that draws its order. -/
theorem step_append_own {P : Program} {w : World} {ops : Array Oper} {o : Oper} {a : Act} {K : Act → World → Prop} {Q : Exit → Act → World → Prop} {E : Prop} (hgd : o.guard = none) (s x : Operand) (t : TypeId)
    (ho : o.op = .call { callee := .builtin .append, args := #[s, x], argTypes := #[t, t] })
    (base : Nat) (e : TypeId) (i : TypeInfo) (z : Value) (size bytes : Nat) (ht : P.underlying t = some (.slice e)) (hi : P.info? e = some i) (hz : i.zero = some z)
    (hsize : i.size = size) (hby : i.bytes = bytes) (hzs : z.cells.size = size) (hsz : 0 < size)
    (v : Value) (n : Nat) (xs : List Value) (hs : a.eval s = v) (hown : w.ownsRow base e size v n xs)
    (ad : Addr) (m c : Nat) (news : List Value) (hx : a.eval x = .slice (some ad) m c) (hl : news.length = m * size) (hnews : ∀ j u, news[j]? = some u → w.cell? (ad.add j) = some u) (h1 : ∀ u ∈ news, u.oneCell' = true)
    (N : Nat) (hN : n + m = N) (h63 : n + m ≤ maxLen) (hbytes : (n + m) * bytes ≤ 140737488355328) (hbase : base ≤ w.heap.size)
    (h : ∀ av cv w', w'.ownsRow base e size (.slice av N cv) N (xs ++ news) → Kept (fun b => v.ownBlock = some b) w w' → K (a.put o.dst (.slice av N cv)) w') :
    if Region.wanted o (yielded ops a.tmps) = true then Oper.wp P o a w K Q else E := by
  have hw : Region.wanted o (yielded ops a.tmps) = true := by simp [Region.wanted, hgd]
  rw [if_pos hw]
  refine wp_append_own w s x t ho base e i z size bytes ht hi hz hsize hby hzs hsz v n xs hs hown ad m c news hx hl hnews h1 h63 hbytes hbase fun v' w' h2 h3 _ => ?_
  rw [hN] at h2
  obtain ⟨av, cv, rfl⟩ := ownsRow_shape h2
  exact h av cv w' h2 ⟨h3.os, h3.tape, h3.output, h3.size, fun q hq hn => h3.block q hq (fun e => hn e.symm)⟩

theorem news_two {w : World} {H : Nat} {u v : Value} {t : TypeId} (hH : w.heap.size = H) : ∀ j x, [u, v][j]? = some x → (w.alloc (.cells #[u, v] t)).cell? ((⟨H, 0, none⟩ : Addr).add j) = some x := by
  subst hH
  intro j x hj
  have hadd : (⟨w.heap.size, 0, none⟩ : Addr).add j = ⟨w.heap.size, j, none⟩ := by unfold Addr.add; split <;> simp_all
  rw [hadd, cell_of_row _ w.heap.size j #[u, v] t (0, 0) (heap_alloc_new w _)]
  simpa using hj

theorem ownsRow_addr {w : World} {B : Nat} {e : TypeId} {size n : Nat} {a : Option Addr} {c : Nat} {xs : List Value} (h : w.ownsRow B e size (.slice a n c) n xs) (hn : 0 < n ∨ ∃ g, (Value.slice a n c).ownBlock = some g) : ∃ g, a = some ⟨g, 0, none⟩ ∧ n ≤ c := by
  rcases h.2 with ⟨h', h0⟩ | ⟨g, cap, cur, h', _, _, hnc, _⟩
  · simp only [Value.slice.injEq] at h'
    rcases hn with hn | ⟨g, hg⟩
    · omega
    · rw [h'.1] at hg; simp [Value.ownBlock] at hg
  · simp only [Value.slice.injEq, true_and] at h'
    exact ⟨g, h'.1, by rw [h'.2]; exact hnc⟩
theorem GC.addr {B T : Nat} {w : World} {a : Option Addr} {c n : Nat} {D : Nat → Int} {P : Nat → List Int} (h : GC B T w (.slice a n c) D P n) (hn : 0 < n ∨ ∃ g, (Value.slice a n c).ownBlock = some g) : ∃ g, a = some ⟨g, 0, none⟩ ∧ n ≤ c := by
  obtain ⟨A, C, h1, _⟩ := h
  exact ownsRow_addr h1 hn

set_option maxRecDepth 100000 in
set_option maxHeartbeats 3200000 in
theorem l2Copy_at (a : Option Addr) (c n : Nat) (D : Nat → Int) (P : Nat → List Int) (w : World) (h : RdC w a D P n) (hn : n ≤ 1048576) (hP : ∀ i, i < n → 0 < (P i).length ∧ (P i).length ≤ 1048576) :
    Calls Try.prog 59 #[.slice a n c] w fun e w' => ∃ g cv, e = .returned (.slice (some ⟨g, 0, none⟩) n cv) ∧ n ≤ cv ∧ GC w.heap.size w'.heap.size w' (.slice (some ⟨g, 0, none⟩) n cv) D P n ∧ Below w.heap.size w w' := by
  obtain ⟨i1, ki, kz0, kz1, kz2⟩ := info_parts Try.infoCh
  obtain ⟨i0, hi0, hz0, hz1, hz2⟩ := info_parts Try.infoU8
  have HA := hide h
  have HP := hide hP
  clear h hP
  go_enter Try.func59, Try.ntmps59
  go_wp2
  go_loopw [3, 4] (fun v i wr => ∃ j : Nat, j ≤ n ∧ i = .int .i64 j ∧ GC w.heap.size wr.heap.size wr v D P j ∧ (∃ g, v.ownBlock = some g) ∧ Below w.heap.size w wr) (fun _ i _ => n - (intOf i).toNat)
  case atStart => exact ⟨0, Nat.zero_le _, rfl, ⟨fun _ => none, fun _ => 0, World.ownsRow_made w #[] 0 (Nat.le_refl _) (Nat.zero_le _) rfl, fun i hi => absurd hi (by omega), fun i i' g hi => absurd hi (by omega), fun i g hi => absurd hi (by omega), fun x hx => by simp [Value.ownBlock] at hx; subst hx; simp⟩, ⟨_, rfl⟩, below_alloc _ _⟩
  case round =>
    obtain ⟨j, hj, rfl, hG, hob, hbel⟩ := hrel
    obtain ⟨lv, lc, rfl⟩ := hG.shape
    have HW := hide hbel
    have HOb := hide hob
    have hsz := hbel.size
    clear hob
    by_cases hlt : j < n
    · obtain ⟨b1, o1, A1, C1, rfl, hb1, hc1⟩ := HA.out (by omega)
      obtain ⟨c1, e1, r1⟩ := hc1 j hlt
      have c1 := (hbel.cell (p := ⟨b1, o1 + j * 2, none⟩) hb1).trans c1
      have e1 := (hbel.cell (p := ⟨b1, o1 + j * 2 + 1, none⟩) hb1).trans e1
      have r1 := r1.below hbel
      obtain ⟨hp0, hp1⟩ := HP.out j hlt
      have hj0 : (0 : Int) ≤ (j : Int) := by omega
      have hj1 : (j : Int) < (n : Int) := by omega
      obtain ⟨A, C, h1, h2, h3, h4, h5⟩ := hG
      have HA1 := hide h1
      have HA2 := hide h2
      have HA3 := hide h3
      generalize A1 j = a1 at e1 r1
      generalize C1 j = d1 at e1
      generalize hxs : P j = xs at *
      generalize hdd : D j = dd at *
      have HX := hide (And.intro hdd hxs)
      clear hxs hdd
      obtain ⟨b2, o2, rfl, hb2, hc2⟩ := r1 (by intro e; subst e; simp at hp0)
      have hb1' : b1 < wr.heap.size := by omega
      have OWN0 : Hid ((wr.alloc (.cells #[] 5)).drew.ownsRow wr.heap.size 5 1 (.slice (some ⟨wr.heap.size, 0, none⟩) 0 0) 0 []) := World.ownsRow_made wr #[] 0 (Nat.le_refl _) (Nat.zero_le _) rfl
      have NEWS0 : Hid (∀ j u, (xs.map (Value.int .u8))[j]? = some u → (wr.alloc (.cells #[] 5)).drew.cell? ((⟨b2, o2, none⟩ : Addr).add j) = some u) := reads_news (w := (wr.alloc (.cells #[] 5)).drew) (fun i hi => ((below_alloc wr (.cells #[] 5)).cell (p := ⟨b2, o2 + i, none⟩) hb2).trans (hc2 i hi))
      have KC : Hid (∀ (W w2 : World) (S : Nat → Prop), W.cell? ⟨b1, o1 + j * 2, none⟩ = some (.int .i64 dd) ∧ W.cell? ⟨b1, o1 + j * 2 + 1, none⟩ = some (.slice (some ⟨b2, o2, none⟩) xs.length d1) → Kept S W w2 → ¬ S b1 → w2.cell? ⟨b1, o1 + j * 2, none⟩ = some (.int .i64 dd) ∧ w2.cell? ⟨b1, o1 + j * 2 + 1, none⟩ = some (.slice (some ⟨b2, o2, none⟩) xs.length d1)) := by
        intro W w2 S hs hk hn
        have hlt := World.block_lt_of_cell? W ⟨b1, o1 + j * 2, none⟩ hs.1
        exact ⟨(hk.cell (p := ⟨b1, o1 + j * 2, none⟩) hlt hn).trans hs.1, (hk.cell (p := ⟨b1, o1 + j * 2 + 1, none⟩) hlt hn).trans hs.2⟩
      have hm0 : 0 + xs.length ≤ maxLen := by unfold maxLen; omega
      have hm0' : (0 + xs.length) * 1 ≤ 140737488355328 := by omega
      have hm1 : j + 1 ≤ maxLen := by unfold maxLen; omega
      have hm2 : (j + 1) * 32 ≤ 140737488355328 := by omega
      have hfar : ¬ (Value.slice (some ⟨wr.heap.size, 0, none⟩) 0 0).ownBlock = some b1 := by simp [Value.ownBlock]; omega
      have hfar2 : ¬ (Value.slice lv j lc).ownBlock = some b1 := fun hx => by have := (HA1.out.lt b1 hx).1; omega
      have hne1 : wr.heap.size ≠ b1 := by omega
      clear h1 h2 h3 h4 h5 hc1 hc2 hbel
      go_wp2_with fail
      go_region_held3 (fun w' => w'.cell? ⟨b1, o1 + j * 2, none⟩ = some (.int .i64 dd) ∧ w'.cell? ⟨b1, o1 + j * 2 + 1, none⟩ = some (.slice (some ⟨b2, o2, none⟩) xs.length d1))
        (first
          | exact KC.out _ _ _ (by assumption) (by assumption) hfar
          | exact KC.out _ _ _ (by assumption) (by assumption) hfar2
          | go_keep)
        ((first
          | (refine step_append_own (by rfl) (.tmp 18) (.tmp 23) 22 (by rfl) wr.heap.size 5 i0 (.int .u8 0) 1 1 Try.underlying22 hi0 hz0 hz1 hz2 rfl (by decide) (.slice (some ⟨wr.heap.size, 0, none⟩) 0 0) 0 [] (by rfl) OWN0.out ⟨b2, o2, none⟩ xs.length d1 (xs.map (Value.int .u8)) (by rfl) (by simp) NEWS0.out (ints_one _ _) xs.length (by simp) hm0 hm0' (by simp) ?_; intro av cv w1 hown1 hk1; obtain ⟨g, cap, hv, hg0, hgl, _⟩ := own_of_ownsRow (zs := xs) hown1 rfl hp0; simp only [Value.slice.injEq, true_and] at hv; obtain ⟨rfl, rfl⟩ := hv; have O1 := hide hown1; have BB1 := hide ((below_alloc wr (.cells #[] 5)).drew.trans (hk1.below (by simp) (fun k hk hS => by simp [Value.ownBlock] at hS; omega))); have hw1 : w1.heap.size ≠ b1 := (by have := BB1.out.size; omega); clear hown1)
          | (refine step_append_own (by rfl) (.tmp 12) (.tmp 26) 41 (by rfl) w.heap.size 53 i1 (.agg #[.int .i64 0, .slice none 0 0]) 2 32 Try.underlying41 ki kz0 kz1 kz2 rfl (by decide) (.slice lv j lc) j (flat j (chCells D P A C)) (by rfl) ((ownsRow_below HA1.out BB1.out).alloc _) ⟨w1.heap.size, 0, none⟩ 1 1 [.int .i64 dd, .slice (some ⟨g, 0, none⟩) xs.length cv] (by rfl) (by rfl) (news_two rfl) (by intro u hu; simp at hu; rcases hu with rfl | rfl <;> rfl) (j + 1) rfl hm1 hm2 (by have := BB1.out.size; simp; omega) ?_; intro av2 cv2 w2 hown2 hk2; have O2 := hide hown2; have K2 := hide (((Kept.refl (fun b => (Value.slice lv j lc).ownBlock = some b) w1).alloc _).trans hk2); clear hown2)))
      go_wp2
      go_roundw
      case rel =>
        refine ⟨j + 1, by omega, by go_num, ?_, ?_, ?_⟩
        · refine (GC.push HA1.out HA2.out HA3.out hsz BB1.out O1.out O2.out K2.out).congr (fun i hi => ?_) (fun i hi => ?_)
          · by_cases e : i = j
            · subst e; rw [upd_same]; exact HX.out.1
            · rw [upd_other _ _ _ e]
          · by_cases e : i = j
            · subst e; rw [upd_same]; exact HX.out.2
            · rw [upd_other _ _ _ e]
        · obtain ⟨g5, h5, _⟩ := ownsRow_addr O2.out (.inl (by omega))
          exact ⟨g5, by rw [h5]; rfl⟩
        · exact (below_next' HW.out BB1.out).trans (K2.out.below (Nat.le_trans hsz BB1.out.size) (fun k hk hx => by have := (HA1.out.lt k hx).1; omega))
      case measure => simp [intOf]; omega
    · have hje : j = n := by omega
      subst hje
      obtain ⟨g5, h5, h6⟩ := hG.addr (.inr HOb.out)
      subst h5
      have HG := hide hG
      clear hG hbel
      go_wp2
      go_ret
      exact ⟨_, _, rfl, h6, HG.out, HW.out⟩
theorem l2Copy_any (a : Option Addr) (c n : Nat) (D : Nat → Int) (P : Nat → List Int) (w : World) (h : RdC w a D P n) (hn : n ≤ 1048576) (hP : ∀ i, i < n → 0 < (P i).length ∧ (P i).length ≤ 1048576) :
    Calls Try.prog 59 #[.slice a n c] w fun e w' => ∃ av cv, e = .returned (.slice av n cv) ∧ GC w.heap.size w'.heap.size w' (.slice av n cv) D P n ∧ Below w.heap.size w w' :=
  (l2Copy_at a c n D P w h hn hP).mono fun e w' ⟨g, cv, he, _, hG, hb⟩ => ⟨_, cv, he, hG, hb⟩

end Go.Proofs.Ytdebojhginiihaa
