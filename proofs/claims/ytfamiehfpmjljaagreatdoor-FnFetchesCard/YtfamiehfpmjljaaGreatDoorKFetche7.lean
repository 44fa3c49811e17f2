/-
  Texts put together: FetT FetU FetV.
-/
import Derived.Test.YtfamiehfpmjljaaGreatDoorKFetche6
import Derived.Test.YtfamiehfpmjljaaGreatDoorKFetche5
import Derived.Deep.RegionHeld3
namespace Go.Proofs.YtfamiehfpmjljaaGreatDoor
open Go.RowKit Go.Maps
set_option linter.unusedVariables false
attribute [local go_sem ↓] Go.wp_at_zero Go.wp_at_succ

theorem step_append_any {P : Program} {w : World} {ops : Array Oper} {o : Oper} {a : Act} {K : Act → World → Prop} {Q : Exit → Act → World → Prop} {E : Prop} (hgd : o.guard = none) (s x : Operand) (t : TypeId)
    (ho : o.op = .call { callee := .builtin .append, args := #[s, x], argTypes := #[t, t] })
    (base : Nat) (e : TypeId) (i : TypeInfo) (z : Value) (size bytes : Nat) (ht : P.underlying t = some (.slice e)) (hi : P.info? e = some i) (hz : i.zero = some z)
    (hsize : i.size = size) (hby : i.bytes = bytes) (hzs : z.cells.size = size) (hsz : 0 < size)
    (g : Nat) (hs : a.eval s = .slice (some ⟨g, 0, none⟩) 0 0) (hown : w.ownsRow base e size (.slice (some ⟨g, 0, none⟩) 0 0) 0 [])
    (xa : Option Addr) (m c : Nat) (news : List Value) (hx : a.eval x = .slice xa m c) (hl : news.length = m * size) (hr : news ≠ [] → ∃ ad, xa = some ad ∧ ∀ j u, news[j]? = some u → w.cell? (ad.add j) = some u) (h1 : ∀ u ∈ news, u.oneCell' = true)
    (h63 : 0 + m ≤ maxLen) (hbytes : (0 + m) * bytes ≤ 140737488355328) (hbase : base ≤ w.heap.size)
    (h : ∀ av cv w', w'.ownsRow base e size (.slice av m cv) m news → Kept (fun b => b = g) w w' → K (a.put o.dst (.slice av m cv)) w') :
    if Region.wanted o (yielded ops a.tmps) = true then Oper.wp P o a w K Q else E := by
  have hw : Region.wanted o (yielded ops a.tmps) = true := by simp [Region.wanted, hgd]
  rw [if_pos hw]
  cases xa with
  | some ad =>
    refine wp_append_own w s x t ho base e i z size bytes ht hi hz hsize hby hzs hsz _ 0 [] hs hown ad m c news hx hl (fun j u hj => ?_) h1 h63 hbytes hbase fun v' w' h2 h3 _ => ?_
    · have h0 : news ≠ [] := fun e => by subst e; simp at hj
      obtain ⟨ad', e1, hc⟩ := hr h0
      simp only [Option.some.injEq] at e1
      subst e1
      exact hc j u hj
    · rw [List.nil_append, Nat.zero_add] at h2
      obtain ⟨av, cv, rfl⟩ := ownsRow_shape h2
      exact h av cv w' h2 ⟨h3.os, h3.tape, h3.output, h3.size, fun q hq hn => h3.block q hq (fun e => hn (by simp [Value.ownBlock] at e; omega))⟩
  | none =>
    have h0 : news = [] := by
      by_cases h0 : news = []
      · exact h0
      · obtain ⟨ad, e1, _⟩ := hr h0; cases e1
    subst h0
    have hm : m = 0 := by
      simp only [List.length_nil] at hl
      rcases Nat.mul_eq_zero.1 hl.symm with h2 | h2 <;> omega
    subst hm
    have hrun : (Builtin.append_ #[t, t] o.type #[.slice (some ⟨g, 0, none⟩) 0 0, .slice none 0 c]).run P w = .ok (.slice (some ⟨g, 0, none⟩) 0 0) w := by
      simp [Builtin.append_, run_underlying ht, sizeOf, typeInfo, hi, Builtin.lenOf, Builtin.firstCells, storeCells]
    unfold Oper.wp execOp
    simp only [ho, resolve, invoke, builtin, Sem.run_bind, Sem.run_pure, Result.andThen_ok, List.map_toArray, List.map_cons, List.map_nil, hs, hx, hrun]
    exact h _ _ w hown (Kept.refl _ _)
theorem rdW_news {w : World} {a : Option Addr} {W : List Wn} (h : RdW w a W) : flat W.length (laidW W.length W) ≠ [] → ∃ ad, a = some ad ∧ ∀ j u, (flat W.length (laidW W.length W))[j]? = some u → w.cell? (ad.add j) = some u := by
  intro hz
  have h0 : W ≠ [] := fun e => by subst e; exact hz rfl
  obtain ⟨b, off, rfl, hb, hc⟩ := h h0
  have hl := flat_length (n := W.length) (k := 2) (F := laidW W.length W) (fun i _ => laidW_length _ _ _)
  refine ⟨_, rfl, fun j u hj => ?_⟩
  have hjl : j < W.length * 2 := by
    by_cases hx : j < W.length * 2
    · exact hx
    · rw [List.getElem?_eq_none (by omega)] at hj; cases hj
  have hadd : (⟨b, off, none⟩ : Addr).add j = ⟨b, off + j, none⟩ := by unfold Addr.add; split <;> simp_all
  have e : j = j / 2 * 2 + j % 2 := by omega
  have h1 : j / 2 < W.length := by omega
  have h2 : j % 2 < 2 := by omega
  rw [e, flat_get (fun i _ => laidW_length _ _ _) _ _ h1 h2] at hj
  obtain ⟨c1, c2⟩ := hc (j / 2) h1
  rw [hadd]
  have hm : j % 2 = 0 ∨ j % 2 = 1 := by omega
  rcases hm with hm | hm
  · rw [hm] at hj
    have e2 : off + j = off + j / 2 * 2 := by omega
    rw [e2, c1]
    simpa [laidW, h1] using hj
  · rw [hm] at hj
    have e2 : off + j = off + j / 2 * 2 + 1 := by omega
    rw [e2, c2]
    simpa [laidW, h1] using hj
theorem flatW_one (W : List Wn) : ∀ u ∈ flat W.length (laidW W.length W), u.oneCell' = true := by
  intro u hu
  unfold flat at hu
  obtain ⟨i, hi, hu⟩ := List.mem_flatMap.1 hu
  unfold laidW at hu
  split at hu <;> simp at hu <;> rcases hu with rfl | rfl <;> rfl
theorem rdF_news {w : World} {a : Option Addr} {F : List Int} (h : Reads .i64 w a F) : F.map (Value.int .i64) ≠ [] → ∃ ad, a = some ad ∧ ∀ j u, (F.map (Value.int .i64))[j]? = some u → w.cell? (ad.add j) = some u := by
  intro hz
  obtain ⟨b, off, rfl, hb, hc⟩ := h (by intro e; subst e; simp at hz)
  exact ⟨_, rfl, reads_news hc⟩
theorem rows_apart {w : World} {B B' : Nat} {e e' : TypeId} {s s' : Nat} {v v' : Value} {n n' : Nat} {xs xs' : List Value} (h : w.ownsRow B e s v n xs) (h' : w.ownsRow B' e' s' v' n' xs') (he : e ≠ e') {b : Nat} (hb : v.ownBlock = some b) : v'.ownBlock ≠ some b := by
  intro hb'
  rcases h.2 with ⟨rfl, _⟩ | ⟨g, cap, cur, rfl, _, hh, _⟩
  · simp [Value.ownBlock] at hb
  · rcases h'.2 with ⟨rfl, _⟩ | ⟨g', cap', cur', rfl, _, hh', _⟩
    · simp [Value.ownBlock] at hb'
    · simp only [Value.ownBlock, Option.some.injEq] at hb hb'
      subst hb hb'
      rw [hh] at hh'
      simp only [Option.some.injEq, Obj.cells.injEq] at hh'
      exact he hh'.2.1
theorem made_at {w : World} {g base : Nat} {e : TypeId} {size : Nat} (hg : w.heap.size = g) (hb : base ≤ g) : (w.alloc (.cells #[] e)).ownsRow base e size (.slice (some ⟨g, 0, none⟩) 0 0) 0 [] := by
  subst hg
  exact World.ownsRow_made w #[] 0 hb (Nat.zero_le _) (by simp)
theorem Kept.threeF (w : World) (b : Nat) (u0 u1 u2 : Value) : Kept (fun x => x = b) w (((w.setCell ⟨b, 0, none⟩ u0).setCell ⟨b, 1, none⟩ u1).setCell ⟨b, 2, none⟩ u2) :=
  ((Kept.one w b 0 u0).trans (Kept.one _ b 1 u1)).trans (Kept.one _ b 2 u2)
set_option maxRecDepth 100000 in
set_option maxHeartbeats 12800000 in
theorem l10Copy_any (wa : Option Addr) (wk : Nat) (W : List Wn) (fa : Option Addr) (fc : Nat) (F : List Int) (ca : Option Addr) (cc n : Nat) (D : Nat → Int) (P : Nat → List Int) (w : World) (h : RdF w wa W fa F ca D P n) (hn : n ≤ 1048576) (hP : ∀ i, i < n → 0 < (P i).length ∧ (P i).length ≤ 1048576) (hWl : W.length ≤ 1048576) (hFl : F.length ≤ 1048576) :
    Calls Tryz.prog 49 #[fetV wa W.length wk fa F.length fc ca n cc] w fun e w' => ∃ xa xc ya yc za zc T, e = .returned (.agg #[.slice xa W.length xc, .slice ya F.length yc, .slice za n zc]) ∧ OwnW w.heap.size w' (.slice xa W.length xc) W ∧ w'.ownsRow w.heap.size 2 1 (.slice ya F.length yc) F.length (F.map (Value.int .i64)) ∧ GC T w'.heap.size w' (.slice za n zc) D P n ∧ w.heap.size ≤ T ∧ (∀ b, (Value.slice xa W.length xc).ownBlock = some b → b < T) ∧ (∀ b, (Value.slice ya F.length yc).ownBlock = some b → b < T) ∧ Below w.heap.size w w' := by
  obtain ⟨i1, ki, kz0, kz1, kz2⟩ := info_parts Tryz.infoWn
  obtain ⟨i0, hi0, hz0, hz1, hz2⟩ := info_parts Tryz.infoI64
  have X0 := hide ((Bx3.new w (.slice wa W.length wk) (.slice fa F.length fc) (.slice ca n cc) 28).below (below_alloc _ (.cells #[.slice none 0 0, .slice none 0 0, .slice none 0 0] 28)))
  have Y0 := hide (Bx3.new (w.alloc (.cells #[.slice wa W.length wk, .slice fa F.length fc, .slice ca n cc] 28)) (.slice none 0 0) (.slice none 0 0) (.slice none 0 0) 28)
  have hs : (w.alloc (.cells #[.slice wa W.length wk, .slice fa F.length fc, .slice ca n cc] 28)).heap.size = w.heap.size + 1 := by simp
  rw [hs] at Y0
  clear hs
  have B0 := hide (below_next (below_alloc w (.cells #[.slice wa W.length wk, .slice fa F.length fc, .slice ca n cc] 28)) (below_alloc _ (.cells #[.slice none 0 0, .slice none 0 0, .slice none 0 0] 28)))
  have hW0 : ((w.alloc (.cells #[.slice wa W.length wk, .slice fa F.length fc, .slice ca n cc] 28)).alloc (.cells #[.slice none 0 0, .slice none 0 0, .slice none 0 0] 28)).heap.size = w.heap.size + 2 := by simp
  have HW0 := hide hW0
  have H0 := hide (h.below B0.out)
  have HP := hide hP
  have HFW := hide (flat_length (n := W.length) (k := 2) (F := laidW W.length W) (fun i _ => laidW_length _ _ _))
  have HFF : Hid ((F.map (Value.int .i64)).length = F.length * 1) := hide (by simp)
  have hm0 : 0 + W.length ≤ maxLen := by unfold maxLen; omega
  have hm0' : (0 + W.length) * 16 ≤ 140737488355328 := by omega
  have hm1 : 0 + F.length ≤ maxLen := by unfold maxLen; omega
  have hm1' : (0 + F.length) * 8 ≤ 140737488355328 := by omega
  clear h hP hW0
  unfold fetV
  go_enter Tryz.func49, Tryz.ntmps49
  obtain ⟨⟨t0, t1, t2⟩, -, -, -⟩ := X0.out
  go_upto_region 1 with fail
  generalize (w.alloc (.cells #[.slice wa W.length wk, .slice fa F.length fc, .slice ca n cc] 28)).alloc (.cells #[.slice none 0 0, .slice none 0 0, .slice none 0 0] 28) = W0 at *
  have HC : Hid (∀ (u w2 : World) (S : Nat → Prop), (u.cell? ⟨w.heap.size, 0, none⟩ = some (.slice wa W.length wk) ∧ u.cell? ⟨w.heap.size, 1, none⟩ = some (.slice fa F.length fc) ∧ u.cell? ⟨w.heap.size, 2, none⟩ = some (.slice ca n cc)) → Kept S u w2 → ¬ S w.heap.size → (w2.cell? ⟨w.heap.size, 0, none⟩ = some (.slice wa W.length wk) ∧ w2.cell? ⟨w.heap.size, 1, none⟩ = some (.slice fa F.length fc) ∧ w2.cell? ⟨w.heap.size, 2, none⟩ = some (.slice ca n cc))) := by
    intro u w2 S ⟨h0, h1, h2⟩ hk hn
    have hlt := World.block_lt_of_cell? u ⟨w.heap.size, 0, none⟩ h0
    exact ⟨(hk.cell (p := ⟨w.heap.size, 0, none⟩) hlt hn).trans h0, (hk.cell (p := ⟨w.heap.size, 1, none⟩) hlt hn).trans h1, (hk.cell (p := ⟨w.heap.size, 2, none⟩) hlt hn).trans h2⟩
  go_region_held3 (fun u => u.cell? ⟨w.heap.size, 0, none⟩ = some (.slice wa W.length wk) ∧ u.cell? ⟨w.heap.size, 1, none⟩ = some (.slice fa F.length fc) ∧ u.cell? ⟨w.heap.size, 2, none⟩ = some (.slice ca n cc))
    (first
      | exact HC.out _ _ _ (by assumption) hk9 id
      | exact HC.out _ _ _ (by assumption) hk7 (fun (e : w.heap.size = _) => by have := HW0.out; have := B3.out.size; omega)
      | exact HC.out _ _ _ (by assumption) hk3 (fun (e : w.heap.size = _) => by have := HW0.out; omega)
      | go_keep)
    (first
      | (refine step_append_any (by rfl) (.tmp 3) (.tmp 5) 24 (by rfl) W0.heap.size 120 i1 (.agg #[.int .i64 0, .int .i64 0]) 2 16 Tryz.underlying24 ki kz0 kz1 kz2 rfl (by decide) W0.heap.size (by rfl) (made_at rfl (Nat.le_refl _)) wa W.length wk (flat W.length (laidW W.length W)) (by rfl) HFW.out (rdW_news (H0.out.wants.below (below_alloc W0 (.cells #[] 120)).drew)) (flatW_one W) hm0 hm0' (below_alloc W0 (.cells #[] 120)).size ?_; intro av cv w3 hown3 hk3; have O3 := hide hown3; have B3 := hide ((below_alloc W0 (.cells #[] 120)).drew.trans (hk3.below (below_alloc W0 (.cells #[] 120)).size (fun q hq hS => by omega))); clear hown3)
      | (refine step_append_any (by rfl) (.tmp 3) (.tmp 5) 24 (by rfl) W0.heap.size 120 i1 (.agg #[.int .i64 0, .int .i64 0]) 2 16 Tryz.underlying24 ki kz0 kz1 kz2 rfl (by decide) W0.heap.size (by rfl) ((made_at (w := W0) rfl (Nat.le_refl _)).alloc _) wa W.length wk (flat W.length (laidW W.length W)) (by rfl) HFW.out (rdW_news (H0.out.wants.below (below_next (below_alloc W0 (.cells #[] 120)) (below_alloc (W0.alloc (.cells #[] 120)) (.cells #[] 2))).drew)) (flatW_one W) hm0 hm0' (below_next (below_alloc W0 (.cells #[] 120)) (below_alloc (W0.alloc (.cells #[] 120)) (.cells #[] 2))).size ?_; intro av cv w3 hown3 hk3; have O3 := hide hown3; have B3 := hide ((below_next (below_alloc W0 (.cells #[] 120)) (below_alloc (W0.alloc (.cells #[] 120)) (.cells #[] 2))).drew.trans (hk3.below (below_next (below_alloc W0 (.cells #[] 120)) (below_alloc (W0.alloc (.cells #[] 120)) (.cells #[] 2))).size (fun q hq hS => by omega))); have E4 : Hid (w3.ownsRow W0.heap.size 2 1 (.slice (some ⟨W0.heap.size + 1, 0, none⟩) 0 0) 0 []) := hide (ownsRow_kept (show World.ownsRow ((W0.alloc (.cells #[] 120)).alloc (.cells #[] 2)).drew W0.heap.size 2 1 (.slice (some ⟨W0.heap.size + 1, 0, none⟩) 0 0) 0 [] from made_at (w := W0.alloc (.cells #[] 120)) (by simp) (by omega)) hk3 (fun b hb e => by simp [Value.ownBlock] at hb; omega)); clear hown3)
      | (refine step_append_any (by rfl) (.tmp 3) (.tmp 5) 24 (by rfl) W0.heap.size 120 i1 (.agg #[.int .i64 0, .int .i64 0]) 2 16 Tryz.underlying24 ki kz0 kz1 kz2 rfl (by decide) (W0.heap.size + 1) (by rfl) (made_at (w := W0.alloc (.cells #[] 2)) (by simp) (by omega)) wa W.length wk (flat W.length (laidW W.length W)) (by rfl) HFW.out (rdW_news (H0.out.wants.below (below_next (below_alloc W0 (.cells #[] 2)) (below_alloc (W0.alloc (.cells #[] 2)) (.cells #[] 120))).drew)) (flatW_one W) hm0 hm0' (below_next (below_alloc W0 (.cells #[] 2)) (below_alloc (W0.alloc (.cells #[] 2)) (.cells #[] 120))).size ?_; intro av cv w3 hown3 hk3; have O3 := hide hown3; have B3 := hide ((below_next (below_alloc W0 (.cells #[] 2)) (below_alloc (W0.alloc (.cells #[] 2)) (.cells #[] 120))).drew.trans (hk3.below (below_next (below_alloc W0 (.cells #[] 2)) (below_alloc (W0.alloc (.cells #[] 2)) (.cells #[] 120))).size (fun q hq hS => by omega))); have E4 : Hid (w3.ownsRow W0.heap.size 2 1 (.slice (some ⟨W0.heap.size, 0, none⟩) 0 0) 0 []) := hide (ownsRow_kept (show World.ownsRow ((W0.alloc (.cells #[] 2)).alloc (.cells #[] 120)).drew W0.heap.size 2 1 (.slice (some ⟨W0.heap.size, 0, none⟩) 0 0) 0 [] from (made_at (w := W0) rfl (Nat.le_refl _)).alloc _) hk3 (fun b hb e => by simp [Value.ownBlock] at hb; omega)); clear hown3)
      | (refine step_append_any (by rfl) (.tmp 7) (.tmp 9) 25 (by rfl) W0.heap.size 2 i0 (.int .i64 0) 1 8 Tryz.underlying25 hi0 hz0 hz1 hz2 rfl (by decide) w3.heap.size (by rfl) (made_at rfl B3.out.size) fa F.length fc (F.map (Value.int .i64)) (by rfl) HFF.out (rdF_news (H0.out.failed.below (below_next B3.out (below_alloc w3 (.cells #[] 2))))) (ints_one _ _) hm1 hm1' (below_next B3.out (below_alloc w3 (.cells #[] 2))).size ?_; intro ay cy w7 hown7 hk7; have O7 := hide hown7; have B7 := hide ((below_next B3.out (below_alloc w3 (.cells #[] 2))).trans (hk7.below (below_next B3.out (below_alloc w3 (.cells #[] 2))).size (fun q hq hS => by have := B3.out.size; omega))); have O6 := hide (ownsRow_kept (O3.out.alloc _) hk7 (fun b hb e => by have := (O3.out.lt b hb).2; omega)); clear hown7)
      | (refine step_append_any (by rfl) (.tmp 7) (.tmp 9) 25 (by rfl) W0.heap.size 2 i0 (.int .i64 0) 1 8 Tryz.underlying25 hi0 hz0 hz1 hz2 rfl (by decide) (W0.heap.size + 1) (by rfl) E4.out fa F.length fc (F.map (Value.int .i64)) (by rfl) HFF.out (rdF_news (H0.out.failed.below B3.out)) (ints_one _ _) hm1 hm1' B3.out.size ?_; intro ay cy w7 hown7 hk7; have O7 := hide hown7; have B7 := hide (B3.out.trans (hk7.below B3.out.size (fun q hq hS => by have := B3.out.size; omega))); have O6 := hide (ownsRow_kept O3.out hk7 (fun b hb e => rows_apart O3.out E4.out (by decide) hb (by subst e; rfl))); clear hown7)
      | (refine step_append_any (by rfl) (.tmp 7) (.tmp 9) 25 (by rfl) W0.heap.size 2 i0 (.int .i64 0) 1 8 Tryz.underlying25 hi0 hz0 hz1 hz2 rfl (by decide) W0.heap.size (by rfl) E4.out fa F.length fc (F.map (Value.int .i64)) (by rfl) HFF.out (rdF_news (H0.out.failed.below B3.out)) (ints_one _ _) hm1 hm1' B3.out.size ?_; intro ay cy w7 hown7 hk7; have O7 := hide hown7; have B7 := hide (B3.out.trans (hk7.below B3.out.size (fun q hq hS => by have := B3.out.size; omega))); have O6 := hide (ownsRow_kept O3.out hk7 (fun b hb e => rows_apart O3.out E4.out (by decide) hb (by subst e; rfl))); clear hown7)
      | (go_at_call 93; refine (l2Copy_any ca cc n D P w7 (H0.out.chunks.below B7.out) hn HP.out).mono ?_; rintro e w9 ⟨az, cz, rfl, hG, hb9⟩; have G9 := hide hG; have B9 := hide (below_next B7.out hb9); have O9 := hide (ownsRow_below O7.out hb9); have P9 := hide (ownsRow_below O6.out hb9); have hz9 := hb9.size; have hk9 : Kept (fun _ => False) w7 w9 := Kept.of_below hb9; obtain ⟨⟨m0, m1, m2⟩, k0, k1, k2⟩ := Y0.out.below B9.out; clear hG hb9))
  all_goals
    go_wp2_with fail
    have hk := Kept.threeF w9 (w.heap.size + 1) (.slice av W.length cv) (.slice ay F.length cy) (.slice az n cz)
    refine bodyPost_ret (v := .agg #[.slice av W.length cv, .slice ay F.length cy, .slice az n cz]) (by simp [results, Tryz.results49, go_sem, m0, m1, m2]) rfl ⟨av, cv, ay, cy, az, cz, w7.heap.size, rfl, ?_, ?_, ?_, ?_, ?_, ?_, ?_⟩
    · exact ownsRow_mono (ownsRow_kept P9.out hk (fun b hb e => by have := (P9.out.lt b hb).1; have := HW0.out; omega)) (by have := HW0.out; omega)
    · exact ownsRow_mono (ownsRow_kept O9.out hk (fun b hb e => by have := (O9.out.lt b hb).1; have := HW0.out; omega)) (by have := HW0.out; omega)
    · have hz : (((w9.setCell ⟨w.heap.size + 1, 0, none⟩ (.slice av W.length cv)).setCell ⟨w.heap.size + 1, 1, none⟩ (.slice ay F.length cy)).setCell ⟨w.heap.size + 1, 2, none⟩ (.slice az n cz)).heap.size = w9.heap.size := by simp [World.setCell]
      rw [hz]
      exact G9.out.kept hk (fun x h1 h2 e => by have := B7.out.size; have := HW0.out; omega)
    · have := B7.out.size; have := HW0.out; omega
    · exact fun b hb => (O6.out.lt b hb).2
    · exact fun b hb => (O7.out.lt b hb).2
    · have hb9 := below_next B0.out B9.out
      exact hb9.trans (hk.below (B := w.heap.size) hb9.size (fun k hk e => by omega))
end Go.Proofs.YtfamiehfpmjljaaGreatDoor

namespace Go.Proofs.YtfamiehfpmjljaaGreatDoor
open Go.RowKit Go.Maps
set_option linter.unusedVariables false
set_option maxRecDepth 100000 in
set_option maxHeartbeats 1600000 in
theorem l10Bad_any (q : Int) (w : World) : Calls Tryz.prog 47 #[.int .i64 q] w fun e w' => e = .returned (.agg #[.int .i64 q, .slice none 0 0, .slice none 0 0, .slice none 0 0]) ∧ Below w.heap.size w w' := by
  go_enter Tryz.func47, Tryz.ntmps47
  go_wp2_with fail
  exact bodyPost_ret (v := .agg #[.int .i64 q, .slice none 0 0, .slice none 0 0, .slice none 0 0]) (by simp [results, Tryz.results47, go_sem]) rfl ⟨rfl, below_alloc _ _⟩
set_option maxRecDepth 100000 in
set_option maxHeartbeats 6400000 in
theorem specAskFetch_bad (wa : Option Addr) (wk : Nat) (W : List Wn) (fa : Option Addr) (fc : Nat) (F : List Int) (ca : Option Addr) (cc n : Nat) (D : Nat → Int) (P : Nat → List Int) (d : Int) (w : World) (h : RdF w wa W fa F ca D P n) (hn : n ≤ 1048576) (hP : SmallP P n) (hWl : W.length ≤ 1048576) (hFl : F.length ≤ 1048576) (hfc : F.length ≤ fc) (hz : fetFault W F D P n ≠ 0) :
    Calls Tryz.prog 24 #[fetV wa W.length wk fa F.length fc ca n cc, .int .i64 d] w (ResF (fetFault W F D P n) [] [] D P 0 w) := by
  have B0 := hide (below_next (below_alloc w (.cells #[.slice wa W.length wk, .slice fa F.length fc, .slice ca n cc] 28)) (below_alloc _ (.cells #[.int .i64 0, .slice none 0 0, .slice none 0 0, .slice none 0 0] 32)))
  have X0 := hide ((Bx3.new w (.slice wa W.length wk) (.slice fa F.length fc) (.slice ca n cc) 28).below (below_alloc _ (.cells #[.int .i64 0, .slice none 0 0, .slice none 0 0, .slice none 0 0] 32)))
  have R0 := hide (Bx4.new (w.alloc (.cells #[.slice wa W.length wk, .slice fa F.length fc, .slice ca n cc] 28)) (.int .i64 0) (.slice none 0 0) (.slice none 0 0) (.slice none 0 0) 32)
  have hs : (w.alloc (.cells #[.slice wa W.length wk, .slice fa F.length fc, .slice ca n cc] 28)).heap.size = w.heap.size + 1 := by simp
  rw [hs] at R0
  clear hs
  have HFF := hide (l10Fault_any w.heap.size wa wk W fa fc F ca cc n D P _ X0.out (h.below B0.out) hn hP hWl hFl hfc)
  clear h hP
  unfold fetV
  have hz1 : (fetFault W F D P n != 0) = true := by simpa using hz
  generalize fetFault W F D P n = A at *
  clear hz
  go_enter Tryz.func24, Tryz.ntmps24
  go_wp2_with fail
  generalize (w.alloc (.cells #[.slice wa W.length wk, .slice fa F.length fc, .slice ca n cc] 28)).alloc (.cells #[.int .i64 0, .slice none 0 0, .slice none 0 0, .slice none 0 0] 32) = W0 at *
  refine HFF.out.mono ?_
  rintro e w1 ⟨rfl, hb1⟩
  have B1 := hide (below_next B0.out hb1)
  have X1 := hide (X0.out.below hb1)
  have R1 := hide (R0.out.below hb1)
  clear hb1 X0 R0 B0 HFF
  go_wp2_with fail
  refine (l10Bad_any A w1).mono ?_
  rintro e w9 ⟨rfl, hb9⟩
  have B9 := hide (below_next B1.out hb9)
  obtain ⟨⟨m0, m1, m2, m3⟩, k0, k1, k2, k3⟩ := R1.out.below hb9
  clear hb9
  go_wp2_with fail
  have hk := Kept.fourF w9 (w.heap.size + 1) (.int .i64 A) (.slice none 0 0) (.slice none 0 0) (.slice none 0 0)
  exact bodyPost_ret (v := .agg #[.int .i64 A, .slice none 0 0, .slice none 0 0, .slice none 0 0]) (by simp [results, Tryz.results24, go_sem, m0, m1, m2, m3]) rfl (ResF.bad (B9.out.trans (hk.below (B := w.heap.size) B9.out.size (fun k hk e => by omega))))
set_option maxRecDepth 100000 in
set_option maxHeartbeats 6400000 in
theorem specAskFetch_range (wa : Option Addr) (wk : Nat) (W : List Wn) (fa : Option Addr) (fc : Nat) (F : List Int) (ca : Option Addr) (cc n : Nat) (D : Nat → Int) (P : Nat → List Int) (d : Int) (w : World) (h : RdF w wa W fa F ca D P n) (hn : n ≤ 1048576) (hP : SmallP P n) (hWl : W.length ≤ 1048576) (hFl : F.length ≤ 1048576) (hfc : F.length ≤ fc) (hz : fetFault W F D P n = 0) (hd : ¬ okD d) :
    Calls Tryz.prog 24 #[fetV wa W.length wk fa F.length fc ca n cc, .int .i64 d] w (ResF 3 [] [] D P 0 w) := by
  have B0 := hide (below_next (below_alloc w (.cells #[.slice wa W.length wk, .slice fa F.length fc, .slice ca n cc] 28)) (below_alloc _ (.cells #[.int .i64 0, .slice none 0 0, .slice none 0 0, .slice none 0 0] 32)))
  have X0 := hide ((Bx3.new w (.slice wa W.length wk) (.slice fa F.length fc) (.slice ca n cc) 28).below (below_alloc _ (.cells #[.int .i64 0, .slice none 0 0, .slice none 0 0, .slice none 0 0] 32)))
  have R0 := hide (Bx4.new (w.alloc (.cells #[.slice wa W.length wk, .slice fa F.length fc, .slice ca n cc] 28)) (.int .i64 0) (.slice none 0 0) (.slice none 0 0) (.slice none 0 0) 32)
  have hs : (w.alloc (.cells #[.slice wa W.length wk, .slice fa F.length fc, .slice ca n cc] 28)).heap.size = w.heap.size + 1 := by simp
  rw [hs] at R0
  clear hs
  have HFF := hide (l10Fault_any w.heap.size wa wk W fa fc F ca cc n D P _ X0.out (h.below B0.out) hn hP hWl hFl hfc)
  rw [hz] at HFF
  have HIS := hide (fun (u : World) => dgS_any d u)
  rw [decide_eq_false hd] at HIS
  clear h hP hz hd
  unfold fetV
  go_enter Tryz.func24, Tryz.ntmps24
  go_wp2_with fail
  generalize (w.alloc (.cells #[.slice wa W.length wk, .slice fa F.length fc, .slice ca n cc] 28)).alloc (.cells #[.int .i64 0, .slice none 0 0, .slice none 0 0, .slice none 0 0] 32) = W0 at *
  refine HFF.out.mono ?_
  rintro e w1 ⟨rfl, hb1⟩
  have B1 := hide (below_next B0.out hb1)
  have X1 := hide (X0.out.below hb1)
  have R1 := hide (R0.out.below hb1)
  clear hb1 X0 R0 B0 HFF
  go_wp2_with fail
  refine (HIS.out w1).mono ?_
  rintro e w1 ⟨rfl, rfl⟩
  go_wp2_with fail
  refine (l10Bad_any 3 w1).mono ?_
  rintro e w9 ⟨rfl, hb9⟩
  have B9 := hide (below_next B1.out hb9)
  obtain ⟨⟨m0, m1, m2, m3⟩, k0, k1, k2, k3⟩ := R1.out.below hb9
  clear hb9
  go_wp2_with fail
  have hk := Kept.fourF w9 (w.heap.size + 1) (.int .i64 3) (.slice none 0 0) (.slice none 0 0) (.slice none 0 0)
  exact bodyPost_ret (v := .agg #[.int .i64 3, .slice none 0 0, .slice none 0 0, .slice none 0 0]) (by simp [results, Tryz.results24, go_sem, m0, m1, m2, m3]) rfl (ResF.bad (B9.out.trans (hk.below (B := w.heap.size) B9.out.size (fun k hk e => by omega))))
set_option maxRecDepth 100000 in
set_option maxHeartbeats 6400000 in
theorem specLoseFetch_none (wa : Option Addr) (wk : Nat) (W : List Wn) (fa : Option Addr) (fc : Nat) (F : List Int) (ca : Option Addr) (cc n : Nat) (D : Nat → Int) (P : Nat → List Int) (d : Int) (w : World) (h : RdF w wa W fa F ca D P n) (hn : n ≤ 1048576) (hP : SmallP P n) (hWl : W.length ≤ 1048576) (hFl : F.length ≤ 1048576) (hfc : F.length ≤ fc) (hz : fetFault W F D P n = 0) (hf : ∀ j, j < W.length → (W.getD j (0, 0)).1 ≠ d) :
    Calls Tryz.prog 34 #[fetV wa W.length wk fa F.length fc ca n cc, .int .i64 d] w (ResF 4 [] [] D P 0 w) := by
  have B0 := hide (below_next (below_alloc w (.cells #[.slice wa W.length wk, .slice fa F.length fc, .slice ca n cc] 28)) (below_alloc _ (.cells #[.int .i64 0, .slice none 0 0, .slice none 0 0, .slice none 0 0] 32)))
  have X0 := hide ((Bx3.new w (.slice wa W.length wk) (.slice fa F.length fc) (.slice ca n cc) 28).below (below_alloc _ (.cells #[.int .i64 0, .slice none 0 0, .slice none 0 0, .slice none 0 0] 32)))
  have R0 := hide (Bx4.new (w.alloc (.cells #[.slice wa W.length wk, .slice fa F.length fc, .slice ca n cc] 28)) (.int .i64 0) (.slice none 0 0) (.slice none 0 0) (.slice none 0 0) 32)
  have hs : (w.alloc (.cells #[.slice wa W.length wk, .slice fa F.length fc, .slice ca n cc] 28)).heap.size = w.heap.size + 1 := by simp
  rw [hs] at R0
  clear hs
  have HFF := hide (l10Fault_any w.heap.size wa wk W fa fc F ca cc n D P _ X0.out (h.below B0.out) hn hP hWl hFl hfc)
  rw [hz] at HFF
  have HAT := hide (fun (u : World) (hb : Below w.heap.size w u) (hX : Bx3 u w.heap.size (.slice wa W.length wk) (.slice fa F.length fc) (.slice ca n cc)) => l10At_no w.heap.size wa wk W d u hX.1.1 (h.wants.below hb) hWl hf)
  clear h hP hz hf
  unfold fetV
  go_enter Tryz.func34, Tryz.ntmps34
  go_wp2_with fail
  generalize (w.alloc (.cells #[.slice wa W.length wk, .slice fa F.length fc, .slice ca n cc] 28)).alloc (.cells #[.int .i64 0, .slice none 0 0, .slice none 0 0, .slice none 0 0] 32) = W0 at *
  refine HFF.out.mono ?_
  rintro e w1 ⟨rfl, hb1⟩
  have B1 := hide (below_next B0.out hb1)
  have X1 := hide (X0.out.below hb1)
  have R1 := hide (R0.out.below hb1)
  clear hb1 X0 R0 B0 HFF
  go_wp2_with fail
  refine (HAT.out w1 B1.out X1.out).mono ?_
  rintro e w1 ⟨rfl, rfl⟩
  go_wp2_with fail
  refine (l10Bad_any 4 w1).mono ?_
  rintro e w9 ⟨rfl, hb9⟩
  have B9 := hide (below_next B1.out hb9)
  obtain ⟨⟨m0, m1, m2, m3⟩, k0, k1, k2, k3⟩ := R1.out.below hb9
  clear hb9
  go_wp2_with fail
  have hk := Kept.fourF w9 (w.heap.size + 1) (.int .i64 4) (.slice none 0 0) (.slice none 0 0) (.slice none 0 0)
  exact bodyPost_ret (v := .agg #[.int .i64 4, .slice none 0 0, .slice none 0 0, .slice none 0 0]) (by simp [results, Tryz.results34, go_sem, m0, m1, m2, m3]) rfl (ResF.bad (B9.out.trans (hk.below (B := w.heap.size) B9.out.size (fun k hk e => by omega))))
end Go.Proofs.YtfamiehfpmjljaaGreatDoor

namespace Go.Proofs.YtfamiehfpmjljaaGreatDoor
open Go.RowKit Go.Maps
set_option linter.unusedVariables false
set_option maxRecDepth 100000 in
set_option maxHeartbeats 3200000 in
theorem l10Ask_failed (fb : Nat) (wa : Option Addr) (wc : Nat) (W : List Wn) (fa : Option Addr) (fc : Nat) (F : List Int) (ca : Option Addr) (cc n : Nat) (D : Nat → Int) (P : Nat → List Int) (d : Int) (w : World) (hX : Bx3 w fb (.slice wa W.length wc) (.slice fa F.length fc) (.slice ca n cc)) (h : RdF w wa W fa F ca D P n) (hFl : F.length ≤ 1048576) (hf : d ∈ F) :
    Calls Tryz.prog 67 #[.pointer (some ⟨fb, 0, none⟩), .int .i64 d] w fun e w' => e = .returned (.int .i64 8) ∧ w' = w := by
  have HAm := hide (l2Among_any fa fc F d w h.failed hFl)
  rw [List.contains_iff_mem.2 hf] at HAm
  clear h hf
  go_enter Tryz.func67, Tryz.ntmps67
  obtain ⟨⟨t0, t1, t2⟩, -, -, -⟩ := hX
  go_wp2_with (go_at_call 66; refine HAm.out.mono ?_; rintro e w1 ⟨rfl, rfl⟩)
  go_ret
  exact ⟨rfl, rfl⟩
set_option maxRecDepth 100000 in
set_option maxHeartbeats 3200000 in
theorem l10Ask_held (fb i : Nat) (wa : Option Addr) (wc : Nat) (W : List Wn) (fa : Option Addr) (fc : Nat) (F : List Int) (ca : Option Addr) (cc n : Nat) (D : Nat → Int) (P : Nat → List Int) (d : Int) (w : World) (hX : Bx3 w fb (.slice wa W.length wc) (.slice fa F.length fc) (.slice ca n cc)) (h : RdF w wa W fa F ca D P n) (hn : n ≤ 1048576) (hFl : F.length ≤ 1048576) (hf : d ∉ F) (hi : i < n) (hd : D i = d) (hfi : ∀ j, j < i → D j ≠ d) :
    Calls Tryz.prog 67 #[.pointer (some ⟨fb, 0, none⟩), .int .i64 d] w fun e w' => e = .returned (.int .i64 0) ∧ w' = w := by
  have HAm := hide (l2Among_any fa fc F d w h.failed hFl)
  rw [show F.contains d = false from by simpa using hf] at HAm
  have HAt := hide (l2At_yes ca cc n i d D P w h.chunks hn hi hd hfi)
  have hi0 : (0 : Int) ≤ (i : Int) := by omega
  clear h hf hfi
  go_enter Tryz.func67, Tryz.ntmps67
  obtain ⟨⟨t0, t1, t2⟩, -, -, -⟩ := hX
  go_wp2_with (first | (go_at_call 66; refine HAm.out.mono ?_; rintro e w1 ⟨rfl, rfl⟩) | (go_at_call 92; refine HAt.out.mono ?_; rintro e w1 ⟨rfl, rfl⟩))
  go_ret
  exact ⟨rfl, rfl⟩
set_option maxRecDepth 100000 in
set_option maxHeartbeats 3200000 in
theorem l10Ask_wanted (fb i : Nat) (wa : Option Addr) (wc : Nat) (W : List Wn) (fa : Option Addr) (fc : Nat) (F : List Int) (ca : Option Addr) (cc n : Nat) (D : Nat → Int) (P : Nat → List Int) (d : Int) (w : World) (hX : Bx3 w fb (.slice wa W.length wc) (.slice fa F.length fc) (.slice ca n cc)) (h : RdF w wa W fa F ca D P n) (hn : n ≤ 1048576) (hWl : W.length ≤ 1048576) (hFl : F.length ≤ 1048576) (hf : d ∉ F) (hnk : ∀ j, j < n → D j ≠ d) (hi : i < W.length) (hd : (W.getD i (0, 0)).1 = d) (hfi : ∀ j, j < i → (W.getD j (0, 0)).1 ≠ d) :
    Calls Tryz.prog 67 #[.pointer (some ⟨fb, 0, none⟩), .int .i64 d] w fun e w' => e = .returned (.int .i64 0) ∧ w' = w := by
  have HAm := hide (l2Among_any fa fc F d w h.failed hFl)
  rw [show F.contains d = false from by simpa using hf] at HAm
  have HAt := hide (l2At_no ca cc n d D P w h.chunks hn hnk)
  have HWt := hide (l10At_yes fb wa wc i W d w hX.1.1 h.wants hWl hi hd hfi)
  have hi0 : (0 : Int) ≤ (i : Int) := by omega
  clear h hf hfi hnk hd
  go_enter Tryz.func67, Tryz.ntmps67
  obtain ⟨⟨t0, t1, t2⟩, -, -, -⟩ := hX
  go_wp2_with (first | (go_at_call 66; refine HAm.out.mono ?_; rintro e w1 ⟨rfl, rfl⟩) | (go_at_call 92; refine HAt.out.mono ?_; rintro e w1 ⟨rfl, rfl⟩) | (go_at_call 48; refine HWt.out.mono ?_; rintro e w1 ⟨rfl, rfl⟩))
  go_ret
  exact ⟨rfl, rfl⟩
set_option maxRecDepth 100000 in
set_option maxHeartbeats 3200000 in
theorem l10Ask_many (fb : Nat) (wa : Option Addr) (wc : Nat) (W : List Wn) (fa : Option Addr) (fc : Nat) (F : List Int) (ca : Option Addr) (cc n : Nat) (D : Nat → Int) (P : Nat → List Int) (d : Int) (w : World) (hX : Bx3 w fb (.slice wa W.length wc) (.slice fa F.length fc) (.slice ca n cc)) (h : RdF w wa W fa F ca D P n) (hn : n ≤ 1048576) (hWl : W.length ≤ 1048576) (hFl : F.length ≤ 1048576) (hf : d ∉ F) (hnk : ∀ j, j < n → D j ≠ d) (hfi : ∀ j, j < W.length → (W.getD j (0, 0)).1 ≠ d) (h12 : 12 ≤ W.length) :
    Calls Tryz.prog 67 #[.pointer (some ⟨fb, 0, none⟩), .int .i64 d] w fun e w' => e = .returned (.int .i64 2) ∧ w' = w := by
  have HAm := hide (l2Among_any fa fc F d w h.failed hFl)
  rw [show F.contains d = false from by simpa using hf] at HAm
  have HAt := hide (l2At_no ca cc n d D P w h.chunks hn hnk)
  have HWt := hide (l10At_no fb wa wc W d w hX.1.1 h.wants hWl hfi)
  have hi0 : (12 : Int) ≤ (W.length : Int) := by omega
  clear h hf hfi hnk
  go_enter Tryz.func67, Tryz.ntmps67
  obtain ⟨⟨t0, t1, t2⟩, -, -, -⟩ := hX
  go_wp2_with (first | (go_at_call 66; refine HAm.out.mono ?_; rintro e w1 ⟨rfl, rfl⟩) | (go_at_call 92; refine HAt.out.mono ?_; rintro e w1 ⟨rfl, rfl⟩) | (go_at_call 48; refine HWt.out.mono ?_; rintro e w1 ⟨rfl, rfl⟩))
  go_ret
  exact ⟨rfl, rfl⟩
theorem rowW_far {w : World} {B b : Nat} {v : Value} {W : List Wn} {a : Option Addr} {m c : Nat} (h : OwnW B w v W) (hz : 0 < W.length) (hb : w.cell? ⟨b, 0, none⟩ = some (.slice a m c)) : ∀ x, v.ownBlock = some x → x ≠ b := by
  rintro x hx rfl
  unfold OwnW at h
  rcases h.2 with ⟨h', hh⟩ | ⟨g, cap, cur, rfl, hg, hgg, _⟩
  · omega
  · simp only [Value.ownBlock, Option.some.injEq] at hx
    subst hx
    have hl := flat_length (n := W.length) (k := 2) (F := laidW W.length W) (fun i _ => laidW_length _ _ _)
    have h1 := World.ownsRow.cellAt h 0 (by omega)
    have h2 := flat_get (n := W.length) (k := 2) (F := laidW W.length W) (fun i _ => laidW_length _ _ _) 0 0 hz (by decide)
    rw [hb] at h1
    simp only [Nat.zero_mul, Nat.add_zero] at h2
    rw [h2] at h1
    simp [laidW, hz] at h1
set_option maxRecDepth 100000 in
set_option maxHeartbeats 3200000 in
theorem l10Ask_new (B fb : Nat) (wa : Option Addr) (wc : Nat) (W : List Wn) (fa : Option Addr) (fc : Nat) (F : List Int) (ca : Option Addr) (cc n : Nat) (D : Nat → Int) (P : Nat → List Int) (d : Int) (w : World) (hX : Bx3 w fb (.slice wa W.length wc) (.slice fa F.length fc) (.slice ca n cc)) (h : RdF w wa W fa F ca D P n) (hO : OwnW B w (.slice wa W.length wc) W) (hB : B ≤ w.heap.size) (hfar : (Value.slice wa W.length wc).ownBlock ≠ some fb) (hn : n ≤ 1048576) (hWl : W.length ≤ 1048576) (hFl : F.length ≤ 1048576) (hf : d ∉ F) (hnk : ∀ j, j < n → D j ≠ d) (hfi : ∀ j, j < W.length → (W.getD j (0, 0)).1 ≠ d) (h12 : ¬ 12 ≤ W.length) :
    Calls Tryz.prog 67 #[.pointer (some ⟨fb, 0, none⟩), .int .i64 d] w fun e w' => e = .returned (.int .i64 0) ∧ ∃ xa xc, Bx3 w' fb (.slice xa (W ++ [(d, 0)]).length xc) (.slice fa F.length fc) (.slice ca n cc) ∧ OwnW B w' (.slice xa (W ++ [(d, 0)]).length xc) (W ++ [(d, 0)]) ∧ Kept (fun b => b = fb ∨ (Value.slice wa W.length wc).ownBlock = some b) w w' := by
  obtain ⟨i1, ki, kz0, kz1, kz2⟩ := info_parts Tryz.infoWn
  have HAm := hide (l2Among_any fa fc F d w h.failed hFl)
  rw [show F.contains d = false from by simpa using hf] at HAm
  have HAt := hide (l2At_no ca cc n d D P w h.chunks hn hnk)
  have HWt := hide (l10At_no fb wa wc W d w hX.1.1 h.wants hWl hfi)
  have hi0 : ¬ (12 : Int) ≤ (W.length : Int) := by omega
  have HX := hide hX
  have HO := hide hO
  have HFR := hide hfar
  have hm1 : W.length + 1 ≤ maxLen := by unfold maxLen; omega
  have hm2 : (W.length + 1) * 16 ≤ 140737488355328 := by omega
  clear h hf hfi hnk hO hfar
  go_enter Tryz.func67, Tryz.ntmps67
  obtain ⟨⟨t0, t1, t2⟩, -, -, -⟩ := hX
  go_wp2_with (first | (go_at_call 66; refine HAm.out.mono ?_; rintro e w1 ⟨rfl, rfl⟩) | (go_at_call 92; refine HAt.out.mono ?_; rintro e w1 ⟨rfl, rfl⟩) | (go_at_call 48; refine HWt.out.mono ?_; rintro e w1 ⟨rfl, rfl⟩) | (at_builtin; refine wpList_append_one rfl (.tmp 34) (.tmp 37) 24 rfl B 120 i1 (.agg #[.int .i64 0, .int .i64 0]) 2 16 Tryz.underlying24 ki kz0 kz1 kz2 rfl (by decide) (.slice wa W.length wc) W.length (flat W.length (laidW W.length W)) rfl HO.out rfl rfl (by intro u hu; simp at hu; rcases hu with rfl | rfl <;> rfl) hm1 hm2 hB ?_; intro v' w2 hown2 hkept; obtain ⟨xa, xc, rfl⟩ := ownsRow_shape hown2; have O2 := hide (OwnW.push (d := d) (t := 0) hown2); have K2 := hide hkept; have X2 := hide (HX.out.kept hkept HFR.out); obtain ⟨⟨s0, s1, s2⟩, z0, z1, z2⟩ := X2.out; clear hown2 hkept t0 t1 t2))
  go_ret
  have hlen : (W ++ [(d, (0 : Int))]).length = W.length + 1 := by simp
  have hk3 := Kept.one w2 fb 0 (.slice xa (W.length + 1) xc)
  have hne := rowW_far O2.out (by omega) s0
  rw [hlen]
  refine ⟨rfl, xa, xc, X2.out.set0 _, ownsRow_kept O2.out hk3 (fun b hb e => hne b hb e), (K2.out.mono (fun b _ hb => .inr hb)).trans (hk3.mono (fun b _ hb => .inl hb))⟩
end Go.Proofs.YtfamiehfpmjljaaGreatDoor

