/-
  Texts put together: PutC FetH FetT FetU FetI FetK FetN FetZ.
-/
import Derived.Test.YtfamiehfpmjljaaGreatDoorKHearFe7
import Derived.Test.YtfamiehfpmjljaaGreatDoorKHearFe4
import Derived.Deep.RegionHeld3
import Derived.Lib.SliceRun
import Derived.Deep.QuietTactic
import Derived.Deep.RegionLaw
namespace Go.Proofs.YtfamiehfpmjljaaGreatDoor
open Go.RowKit Go.Maps
set_option linter.unusedVariables false

set_option maxRecDepth 100000 in
set_option maxHeartbeats 1600000 in
theorem put_full (b N : Nat) (L : List Ch) (T : Nat) (d : Int) (a : Option Addr) (n c : Nat) (w : World) (h : Holds w b N L T) (hw : (Lit.int .i64 d).wf = true) (hd : d ∉ L.map Prod.fst) (hf : 40 ≤ L.length) :
    Calls Tryz.prog 88 #[.map (some b), .agg #[.int .i64 d, .slice a n c]] w fun e w' => e = .returned (.int .i64 2) ∧ Holds w' b N L T ∧ Kept (fun x => x = b) w w' := by
  have hH1 := h.below (below_alloc w (.cells #[.int .i64 d, .slice a n c] 70))
  have HL := hide (hH1.no hd hw 92 Tryz.underlying92)
  have HH := hide (hH1.below (below_alloc _ (.cells #[.int .i64 0, .slice none 0 0] 70)))
  obtain ⟨Dt, hown, hsize, -, -⟩ := HH.out.keys
  have HO := hide hown
  have HSz := hide hsize
  have hf' : (40 : Int) ≤ (L.length : Int) := by omega
  have HB := hide (below_next (below_alloc w (.cells #[.int .i64 d, .slice a n c] 70)) (below_alloc _ (.cells #[.int .i64 0, .slice none 0 0] 70)))
  clear h hH1 hd hown hsize
  go_enter Tryz.func88, Tryz.ntmps88
  go_wp2_with (first | (at_lookup; refine wpList_look rfl _ _ 92 true rfl _ _ _ rfl rfl HL.out ?_) | (at_len; refine wpList_len_own _ rfl _ 92 rfl 2 70 Tryz.underlying92 RV b N Dt rfl HO.out ?_; rw [HSz.out]) | fail)
  go_ret
  exact ⟨rfl, HH.out, Kept.of_below HB.out⟩

set_option maxRecDepth 100000 in
set_option maxHeartbeats 1600000 in
theorem put_new (b N : Nat) (L : List Ch) (T : Nat) (d : Int) (a : Option Addr) (c : Nat) (zs : List Int) (w : World) (h : Holds w b N L T) (hw : (Lit.int .i64 d).wf = true) (hd : d ∉ L.map Prod.fst) (hf : L.length < 40) (hN : N ≤ 1048576) (hr : Reads .u8 w a zs) (hT : ∀ x, a = some x → x.block < T) :
    Calls Tryz.prog 88 #[.map (some b), .agg #[.int .i64 d, .slice a zs.length c]] w fun e w' => e = .returned (.int .i64 0) ∧ Holds w' b (N + 1) (L ++ [(d, zs)]) T ∧ Kept (fun x => x = b) w w' := by
  have hH1 := h.below (below_alloc w (.cells #[.int .i64 d, .slice a zs.length c] 70))
  have HL := hide (hH1.no hd hw 92 Tryz.underlying92)
  have HH := hide (hH1.below (below_alloc _ (.cells #[.int .i64 0, .slice none 0 0] 70)))
  obtain ⟨Dt, hown, hsize, -, -⟩ := HH.out.keys
  have HO := hide hown
  have HSz := hide hsize
  have hf' : ¬ (40 : Int) ≤ (L.length : Int) := by omega
  have hB := below_next (below_alloc w (.cells #[.int .i64 d, .slice a zs.length c] 70)) (below_alloc _ (.cells #[.int .i64 0, .slice none 0 0] 70))
  obtain ⟨Dt2, hown2, hput⟩ := HH.out.put (c := c) hd (hr.below hB) hT
  have HB := hide hB
  have HO2 := hide hown2
  have HPt := hide hput
  have HK := hide (key64 hw)
  clear h hH1 hd hown hsize hown2 hput hB hr hT
  go_enter Tryz.func88, Tryz.ntmps88
  go_wp2_with (first | (at_lookup; refine wpList_look rfl _ _ 92 true rfl _ _ _ rfl rfl HL.out ?_) | (at_len; refine wpList_len_own _ rfl _ 92 rfl 2 70 Tryz.underlying92 RV b N Dt rfl HO.out ?_; rw [HSz.out]) | (at_mapUpdate; refine wpList_mapUpdate_own _ rfl _ _ _ 92 rfl 2 70 law64 Tryz.underlying92 RV b N Dt2 rfl HO2.out (by unfold maxLen; omega) _ _ _ rfl rfl HK.out (.held (chv d a zs.length c)) [] rfl ?_; intro w1 hown1 hgrow1; have HH1 := hide (HPt.out w1 hown1 hgrow1); have HG1 := hide hgrow1; clear hown1 hgrow1) | fail)
  go_ret
  exact ⟨rfl, HH1.out, (Kept.of_below HB.out).trans (Kept.of_grown HG1.out)⟩

theorem pairwise_lst {D : Nat → Int} {P : Nat → List Int} {n : Nat} (h : ∀ i j, i < j → j < n → D i < D j) : (lst D P n).Pairwise (fun p q => p.1 < q.1) := by
  unfold lst
  refine List.pairwise_map.2 ((List.pairwise_lt_range (n := n)).imp_of_mem fun {i j} hi hj hij => h i j hij (List.mem_range.1 hj))
theorem lst_split (D : Nat → Int) (P : Nat → List Int) {n m : Nat} (hm : m ≤ n) : lst D P n = lst D P m ++ (List.range (n - m)).map fun i => (D (m + i), P (m + i)) := by
  unfold lst
  have : n = m + (n - m) := by omega
  rw [this, List.range_add, List.map_append, List.map_map]
  have e : m + (n - m) - m = n - m := by omega
  rw [e]
  rfl
theorem lst_ins (D : Nat → Int) (P : Nat → List Int) {n m : Nat} (hm : m ≤ n) (d : Int) (zs : List Int) : lst (ins D m d) (ins P m zs) (n + 1) = lst D P m ++ (d, zs) :: (List.range (n - m)).map fun i => (D (m + i), P (m + i)) := by
  rw [lst_split (ins D m d) (ins P m zs) (m := m + 1) (by omega), lst_succ]
  have e1 : lst (ins D m d) (ins P m zs) m = lst D P m := by
    unfold lst
    apply List.map_congr_left
    intro i hi
    have := List.mem_range.1 hi
    simp [ins, this]
  have e2 : n + 1 - (m + 1) = n - m := by omega
  rw [e1, e2, List.append_assoc]
  congr 1
  rw [List.singleton_append]
  congr 1
  · simp [ins]
  · apply List.map_congr_left
    intro i hi
    have h1 : ¬ m + 1 + i < m := by omega
    have h2 : ¬ m + 1 + i = m := by omega
    have h3 : m + 1 + i - 1 = m + i := by omega
    simp [ins, h1, h2, h3]
theorem ins_perm (D : Nat → Int) (P : Nat → List Int) {n m : Nat} (hm : m ≤ n) (d : Int) (zs : List Int) : (lst (ins D m d) (ins P m zs) (n + 1)).Perm (lst D P n ++ [(d, zs)]) := by
  rw [lst_ins D P hm, lst_split D P hm]
  refine List.Perm.trans List.perm_middle ?_
  exact (List.perm_append_singleton _ _).symm
theorem ins_up {D : Nat → Int} {P : Nat → List Int} {n m : Nat} (hR : RightC D P n) (hm : m ≤ n) {d : Int} (hlow : ∀ i, i < m → D i < d) (hhigh : m < n → ¬ D m < d) (hd : ∀ i, i < n → D i ≠ d) : ∀ i j, i < j → j < n + 1 → ins D m d i < ins D m d j := by
  have hup : ∀ i, m ≤ i → i < n → d < D i := fun i h1 h2 => by
    have h3 := hhigh (by omega)
    have h4 := hd m (by omega)
    by_cases e : i = m
    · subst e; omega
    · have := hR.inj m i (by omega) h2
      omega
  intro i j hij hj
  unfold ins
  by_cases h1 : i < m
  · rw [if_pos h1]
    by_cases h2 : j < m
    · rw [if_pos h2]; exact hR.inj i j hij (by omega)
    · rw [if_neg h2]
      by_cases h3 : j = m
      · rw [if_pos h3]; exact hlow i h1
      · rw [if_neg h3]; exact hR.inj i (j - 1) (by omega) (by omega)
  · rw [if_neg h1]
    have h2 : ¬ j < m := by omega
    have h3 : ¬ j = m := by omega
    rw [if_neg h2, if_neg h3]
    by_cases h4 : i = m
    · rw [if_pos h4]; exact hup (j - 1) (by omega) (by omega)
    · rw [if_neg h4]; exact hR.inj (i - 1) (j - 1) (by omega) (by omega)
theorem dg_lst {D : Nat → Int} {P : Nat → List Int} {n i : Nat} (hi : i < n) : dg (lst D P n) i = D i := by simp [dg, lst, List.getD_eq_getElem?_getD, hi]
theorem bt_lst {D : Nat → Int} {P : Nat → List Int} {n i : Nat} (hi : i < n) : bt (lst D P n) i = P i := by simp [bt, lst, List.getD_eq_getElem?_getD, hi]
theorem place {D : Nat → Int} (d : Int) : ∀ n : Nat, ∃ m, m ≤ n ∧ (∀ i, i < m → D i < d) ∧ (m < n → ¬ D m < d)
  | 0 => ⟨0, Nat.le_refl _, fun i hi => absurd hi (by omega), fun h => absurd h (by omega)⟩
  | n + 1 => by
    obtain ⟨m, h1, h2, h3⟩ := place (D := D) d n
    by_cases e : m < n
    · exact ⟨m, by omega, h2, fun _ => h3 e⟩
    · have hmn : m = n := by omega
      subst hmn
      by_cases hp : D m < d
      · exact ⟨m + 1, Nat.le_refl _, fun j hj => by
          by_cases ej : j = m
          · subst ej; exact hp
          · exact h2 j (by omega), fun h => absurd h (by omega)⟩
      · exact ⟨m, by omega, h2, fun _ => hp⟩




end Go.Proofs.YtfamiehfpmjljaaGreatDoor

namespace Go.Proofs.YtfamiehfpmjljaaGreatDoor
open Go.RowKit Go.Maps
set_option linter.unusedVariables false

def ResF (q : Int) (W : List Wn) (F : List Int) (D : Nat → Int) (P : Nat → List Int) (n : Nat) (w : World) (r : Ending) (w' : World) : Prop :=
  ∃ wa wc fa fc ca cc, r = .returned (.agg #[.int .i64 q, .slice wa W.length wc, .slice fa F.length fc, .slice ca n cc]) ∧ OwnW w.heap.size w' (.slice wa W.length wc) W ∧ w'.ownsRow w.heap.size 2 1 (.slice fa F.length fc) F.length (F.map (Value.int .i64)) ∧ GC w.heap.size w'.heap.size w' (.slice ca n cc) D P n ∧ Below w.heap.size w w'
theorem ResF.bad {q : Int} {D : Nat → Int} {P : Nat → List Int} {w w' : World} (h : Below w.heap.size w w') : ResF q [] [] D P 0 w (.returned (.agg #[.int .i64 q, .slice none 0 0, .slice none 0 0, .slice none 0 0])) w' := ⟨none, 0, none, 0, none, 0, rfl, OwnW.nil _ _, World.ownsRow_nil _ _ _ _, GC.nil _ _ _ _ _, h⟩
theorem ResF.box {q : Int} {W : List Wn} {F : List Int} {D : Nat → Int} {P : Nat → List Int} {n : Nat} {w w2 : World} {B b : Nat} {wa fa ca : Option Addr} {wc fc cc : Nat} {u0 u1 u2 u3 : Value} (hW : OwnW B w2 (.slice wa W.length wc) W) (hF : w2.ownsRow B 2 1 (.slice fa F.length fc) F.length (F.map (Value.int .i64))) (hG : GC B w2.heap.size w2 (.slice ca n cc) D P n) (hb : Below w.heap.size w w2) (hw : w.heap.size ≤ b) (hB : b < B) :
    ResF q W F D P n w (.returned (.agg #[.int .i64 q, .slice wa W.length wc, .slice fa F.length fc, .slice ca n cc])) ((((w2.setCell ⟨b, 0, none⟩ u0).setCell ⟨b, 1, none⟩ u1).setCell ⟨b, 2, none⟩ u2).setCell ⟨b, 3, none⟩ u3) := by
  have hk := Kept.fourF w2 b u0 u1 u2 u3
  have hz : ((((w2.setCell ⟨b, 0, none⟩ u0).setCell ⟨b, 1, none⟩ u1).setCell ⟨b, 2, none⟩ u2).setCell ⟨b, 3, none⟩ u3).heap.size = w2.heap.size := by simp [World.setCell]
  refine ⟨wa, wc, fa, fc, ca, cc, rfl, (hW.kept hk (fun x hx e => by omega)).mono (by omega), ownsRow_mono (ownsRow_kept hF hk (fun x hx e => by have := (hF.lt x hx).1; omega)) (by omega), ?_, hb.trans (hk.below (B := w.heap.size) hb.size (fun k hk e => by omega))⟩
  rw [hz]
  exact (hG.kept hk (fun x h1 h2 e => by omega)).mono (by omega)
theorem up_right {D : Nat → Int} {P : Nat → List Int} {n : Nat} (h : RightC D P n) : up (lst D P n) = lst D P n := by
  have hp := pairwise_lst (P := P) h.inj
  have hnd : ((lst D P n).map Prod.fst).Nodup := by
    rw [List.nodup_iff_pairwise_ne, List.pairwise_map]
    exact hp.imp (fun h e => by omega)
  exact up_unique (up_perm hnd) (up_up hnd) hp
theorem gc_right {D : Nat → Int} {P : Nat → List Int} {n B T : Nat} {w : World} {v : Value} (h : RightC D P n) (hG : GC B T w v (dg (up (lst D P n))) (bt (up (lst D P n))) n) : GC B T w v D P n := by
  rw [up_right h] at hG
  exact hG.congr (fun i hi => (dg_lst hi).symm) (fun i hi => (bt_lst hi).symm)
theorem lst_small {D : Nat → Int} {P : Nat → List Int} {n : Nat} (h : RightC D P n) : ∀ p ∈ lst D P n, 0 < p.2.length ∧ p.2.length ≤ 1048576 := by
  intro p hp
  obtain ⟨i, hi, rfl⟩ := lst_mem.1 hp
  exact h.u8len hi
end Go.Proofs.YtfamiehfpmjljaaGreatDoor

namespace Go.Proofs.YtfamiehfpmjljaaGreatDoor
open Go.RowKit Go.Maps
set_option linter.unusedVariables false
attribute [local go_sem ↓] Go.wp_at_zero Go.wp_at_succ

theorem step_append_any {P : Program} {w : World} {ops : Array Oper} {o : Oper} {a : Act} {K : Act → World → Prop} {Q : Exit → Act → World → Prop} {E : Prop} (hgd : o.guard = none) (s x : Operand) (t : TypeId)
    (ho : o.op = .call { callee := .builtin .append, args := #[s, x], argTypes := #[t, t] })
    (base : Nat) (e : TypeId) (i : TypeInfo) (z : Value) (size bytes : Nat) (ht : P.underlying t = some (.slice e)) (hi : P.info? e = some i) (hz : i.zero = some z)
    (hsize : i.size = size) (hby : i.bytes = bytes) (hzs : z.cells.size = size) (hsz : 0 < size)
    (g : Nat) (hs : a.eval s = .slice (some ⟨g, 0, none⟩) 0 0) (hown : w.ownsRow base e size (.slice (some ⟨g, 0, none⟩) 0 0) 0 [])
    (xa : Option Addr) (m c : Nat) (news : List Value) (hx : a.eval x = .slice xa m c) (hl : news.length = m * size) (hr : news ≠ [] → ∃ ad, xa = some ad ∧ ∀ j u, news[j]? = some u → w.cell? (ad.add j) = some u) (h1 : ∀ u ∈ news, u.oneCell' = true)
    (h63 : 0 + m ≤ maxLen) (hbytes : (0 + m) * bytes ≤ 140737488355328) (hbase : base ≤ w.heap.size)
    (h : ∀ av cv w', w'.ownsRow base e size (.slice av m cv) m news → Kept (fun b => b = g) w w' → K (a.put o.dst (.slice av m cv)) w') :
    if Region.wanted o (yielded ops a.tmps) = true then Oper.wp P o a w K Q else E := by
  have hw : Region.wanted o (yielded ops a.tmps) = true := by simp [Region.wanted, hgd]
  rw [if_pos hw]
  cases xa with
  | some ad =>
    refine wp_append_own w s x t ho base e i z size bytes ht hi hz hsize hby hzs hsz _ 0 [] hs hown ad m c news hx hl (fun j u hj => ?_) h1 h63 hbytes hbase fun v' w' h2 h3 _ => ?_
    · have h0 : news ≠ [] := fun e => by subst e; simp at hj
      obtain ⟨ad', e1, hc⟩ := hr h0
      simp only [Option.some.injEq] at e1
      subst e1
      exact hc j u hj
    · rw [List.nil_append, Nat.zero_add] at h2
      obtain ⟨av, cv, rfl⟩ := ownsRow_shape h2
      exact h av cv w' h2 ⟨h3.os, h3.tape, h3.output, h3.size, fun q hq hn => h3.block q hq (fun e => hn (by simp [Value.ownBlock] at e; omega))⟩
  | none =>
    have h0 : news = [] := by
      by_cases h0 : news = []
      · exact h0
      · obtain ⟨ad, e1, _⟩ := hr h0; cases e1
    subst h0
    have hm : m = 0 := by
      simp only [List.length_nil] at hl
      rcases Nat.mul_eq_zero.1 hl.symm with h2 | h2 <;> omega
    subst hm
    have hrun : (Builtin.append_ #[t, t] o.type #[.slice (some ⟨g, 0, none⟩) 0 0, .slice none 0 c]).run P w = .ok (.slice (some ⟨g, 0, none⟩) 0 0) w := by
      simp [Builtin.append_, run_underlying ht, sizeOf, typeInfo, hi, Builtin.lenOf, Builtin.firstCells, storeCells]
    unfold Oper.wp execOp
    simp only [ho, resolve, invoke, builtin, Sem.run_bind, Sem.run_pure, Result.andThen_ok, List.map_toArray, List.map_cons, List.map_nil, hs, hx, hrun]
    exact h _ _ w hown (Kept.refl _ _)
theorem rdW_news {w : World} {a : Option Addr} {W : List Wn} (h : RdW w a W) : flat W.length (laidW W.length W) ≠ [] → ∃ ad, a = some ad ∧ ∀ j u, (flat W.length (laidW W.length W))[j]? = some u → w.cell? (ad.add j) = some u := by
  intro hz
  have h0 : W ≠ [] := fun e => by subst e; exact hz rfl
  obtain ⟨b, off, rfl, hb, hc⟩ := h h0
  have hl := flat_length (n := W.length) (k := 2) (F := laidW W.length W) (fun i _ => laidW_length _ _ _)
  refine ⟨_, rfl, fun j u hj => ?_⟩
  have hjl : j < W.length * 2 := by
    by_cases hx : j < W.length * 2
    · exact hx
    · rw [List.getElem?_eq_none (by omega)] at hj; cases hj
  have hadd : (⟨b, off, none⟩ : Addr).add j = ⟨b, off + j, none⟩ := by unfold Addr.add; split <;> simp_all
  have e : j = j / 2 * 2 + j % 2 := by omega
  have h1 : j / 2 < W.length := by omega
  have h2 : j % 2 < 2 := by omega
  rw [e, flat_get (fun i _ => laidW_length _ _ _) _ _ h1 h2] at hj
  obtain ⟨c1, c2⟩ := hc (j / 2) h1
  rw [hadd]
  have hm : j % 2 = 0 ∨ j % 2 = 1 := by omega
  rcases hm with hm | hm
  · rw [hm] at hj
    have e2 : off + j = off + j / 2 * 2 := by omega
    rw [e2, c1]
    simpa [laidW, h1] using hj
  · rw [hm] at hj
    have e2 : off + j = off + j / 2 * 2 + 1 := by omega
    rw [e2, c2]
    simpa [laidW, h1] using hj
theorem flatW_one (W : List Wn) : ∀ u ∈ flat W.length (laidW W.length W), u.oneCell' = true := by
  intro u hu
  unfold flat at hu
  obtain ⟨i, hi, hu⟩ := List.mem_flatMap.1 hu
  unfold laidW at hu
  split at hu <;> simp at hu <;> rcases hu with rfl | rfl <;> rfl
theorem rdF_news {w : World} {a : Option Addr} {F : List Int} (h : Reads .i64 w a F) : F.map (Value.int .i64) ≠ [] → ∃ ad, a = some ad ∧ ∀ j u, (F.map (Value.int .i64))[j]? = some u → w.cell? (ad.add j) = some u := by
  intro hz
  obtain ⟨b, off, rfl, hb, hc⟩ := h (by intro e; subst e; simp at hz)
  exact ⟨_, rfl, reads_news hc⟩
theorem rows_apart {w : World} {B B' : Nat} {e e' : TypeId} {s s' : Nat} {v v' : Value} {n n' : Nat} {xs xs' : List Value} (h : w.ownsRow B e s v n xs) (h' : w.ownsRow B' e' s' v' n' xs') (he : e ≠ e') {b : Nat} (hb : v.ownBlock = some b) : v'.ownBlock ≠ some b := by
  intro hb'
  rcases h.2 with ⟨rfl, _⟩ | ⟨g, cap, cur, rfl, _, hh, _⟩
  · simp [Value.ownBlock] at hb
  · rcases h'.2 with ⟨rfl, _⟩ | ⟨g', cap', cur', rfl, _, hh', _⟩
    · simp [Value.ownBlock] at hb'
    · simp only [Value.ownBlock, Option.some.injEq] at hb hb'
      subst hb hb'
      rw [hh] at hh'
      simp only [Option.some.injEq, Obj.cells.injEq] at hh'
      exact he hh'.2.1
theorem made_at {w : World} {g base : Nat} {e : TypeId} {size : Nat} (hg : w.heap.size = g) (hb : base ≤ g) : (w.alloc (.cells #[] e)).ownsRow base e size (.slice (some ⟨g, 0, none⟩) 0 0) 0 [] := by
  subst hg
  exact World.ownsRow_made w #[] 0 hb (Nat.zero_le _) (by simp)
theorem Kept.threeF (w : World) (b : Nat) (u0 u1 u2 : Value) : Kept (fun x => x = b) w (((w.setCell ⟨b, 0, none⟩ u0).setCell ⟨b, 1, none⟩ u1).setCell ⟨b, 2, none⟩ u2) :=
  ((Kept.one w b 0 u0).trans (Kept.one _ b 1 u1)).trans (Kept.one _ b 2 u2)
end Go.Proofs.YtfamiehfpmjljaaGreatDoor

namespace Go.Proofs.YtfamiehfpmjljaaGreatDoor
open Go.RowKit Go.Maps
set_option linter.unusedVariables false
set_option maxRecDepth 100000 in
set_option maxHeartbeats 1600000 in
theorem l10Bad_any (q : Int) (w : World) : Calls Tryz.prog 47 #[.int .i64 q] w fun e w' => e = .returned (.agg #[.int .i64 q, .slice none 0 0, .slice none 0 0, .slice none 0 0]) ∧ Below w.heap.size w w' := by
  go_enter Tryz.func47, Tryz.ntmps47
  go_wp2_with fail
  exact bodyPost_ret (v := .agg #[.int .i64 q, .slice none 0 0, .slice none 0 0, .slice none 0 0]) (by simp [results, Tryz.results47, go_sem]) rfl ⟨rfl, below_alloc _ _⟩
end Go.Proofs.YtfamiehfpmjljaaGreatDoor

namespace Go.Proofs.YtfamiehfpmjljaaGreatDoor
open Go.RowKit Go.Maps
set_option linter.unusedVariables false

structure NowF (B fb : Nat) (w : World) (W : List Wn) (F : List Int) (L : List Ch) (wa : Option Addr) (wk : Nat) (ps : List Nat) (fa : Option Addr) (fc bm N : Nat) : Prop where
  box : Bx3 w fb (.slice wa W.length wk) (.slice fa F.length fc) (.map (some bm))
  wants : OwnP (fb + 1) w (.slice wa W.length wk) ps W
  failed : w.ownsRow B 2 1 (.slice fa F.length fc) F.length (F.map (Value.int .i64))
  ahead : ∀ b, (Value.slice fa F.length fc).ownBlock = some b → b < fb
  held : Holds w bm N L B
  low : B ≤ bm
  high : bm < fb
  room : N ≤ 1048576
theorem NowF.below {B fb : Nat} {w w' : World} {W : List Wn} {F : List Int} {L : List Ch} {wa : Option Addr} {wk : Nat} {ps : List Nat} {fa : Option Addr} {fc bm N : Nat} (h : NowF B fb w W F L wa wk ps fa fc bm N) (hb : Below w.heap.size w w') : NowF B fb w' W F L wa wk ps fa fc bm N :=
  ⟨h.box.below hb, h.wants.below hb, ownsRow_below h.failed hb, h.ahead, h.held.below hb, h.low, h.high, h.room⟩
end Go.Proofs.YtfamiehfpmjljaaGreatDoor

namespace Go.Proofs.YtfamiehfpmjljaaGreatDoor
open Go.RowKit Go.Maps
set_option linter.unusedVariables false

theorem below_drewN {B : Nat} {w w' : World} (h : Below B w w') : ∀ n, Below B w (w'.drewN n)
  | 0 => h
  | n + 1 => (below_drewN h n).drew
set_option maxHeartbeats 800000 in
theorem wantLit_any (p cb : Nat) (x d : Int) (w : World) (hp : w.cell? ⟨p, 0, none⟩ = some (.int .i64 x)) (hc : w.cell? ⟨cb, 0, none⟩ = some (.int .i64 d)) :
    Calls Tryz.prog 120 #[.pointer (some ⟨p, 0, none⟩), .pointer (some ⟨cb, 0, none⟩)] w fun e w' => e = .returned (.bool (x == d)) ∧ Below w.heap.size w w' := by
  go_enter Tryz.func120, Tryz.ntmps120
  go_wp2_with fail
  go_quiet (fail)
  go_wp2_with fail
  go_ret
  exact ⟨rfl, below_drewN (Below.refl _ _) _⟩
set_option maxRecDepth 100000 in
set_option maxHeartbeats 1600000 in
theorem indexFunc_one (a : Option Addr) (c i cb : Nat) (ps : List Nat) (W : List Wn) (d : Int) (w : World) (h : RdP w a ps W) (hl : W.length ≤ 1048576) (hi : i < W.length) (hd : (W.getD i (0, 0)).1 = d) (hf : ∀ j, j < i → (W.getD j (0, 0)).1 ≠ d) (hc : w.cell? ⟨cb, 0, none⟩ = some (.int .i64 d)) :
    Calls Tryz.prog 145 #[.slice a W.length c, .func (.func 120) #[] #[.pointer (some ⟨cb, 0, none⟩)]] w fun e w' => e = .returned (.int .i64 i) ∧ Below w.heap.size w w' := by
  have eg : ∀ args w, (callFunc 120 args).run Tryz.prog w = .ok (.enter 120 args) w := enters_of Tryz.func120 (by kernel_rfl) rfl
  have hcl := World.block_lt_of_cell? w ⟨cb, 0, none⟩ hc
  have HR := hide h
  have HF := hide hf
  have HD := hide hd
  have HCc := hide hc
  clear h hf hd hc
  go_enter Tryz.func145, Tryz.ntmps145
  go_wp2_with fail
  go_loopw [5, 8] (fun _ q wr => ∃ k : Nat, k ≤ i ∧ q = .int .i64 k ∧ Hid (Below w.heap.size w wr)) (fun _ q _ => W.length - (intOf q).toNat)
  case atStart => exact ⟨0, Nat.zero_le _, rfl, hide (Below.refl _ _)⟩
  case round =>
    obtain ⟨k, hk, rfl, BW⟩ := hrel
    have hlt : k < W.length := by omega
    obtain ⟨h1, h2, h3⟩ := HR.out.below BW.out
    obtain ⟨b1, o1, rfl, hb1, hc1⟩ := h3 (by intro e; simp [e] at hlt)
    have c1 := hc1 k hlt
    obtain ⟨e1, -⟩ := h2 k hlt
    have HLt := hide (wantLit_any (ps.getD k 0) cb (W.getD k (0, 0)).1 d wr e1 ((BW.out.cell (p := ⟨cb, 0, none⟩) hcl).trans HCc.out))
    generalize ps.getD k 0 = p at *
    unfold ptrV at c1
    have hklt : (k : Int) < (W.length : Int) := by omega
    clear h1 h2 h3 hc1 e1
    by_cases e : k = i
    · subst e
      rw [HD.out, show (d == d) = true by simp] at HLt
      go_wp2_with fail
      refine HLt.out.mono ?_
      rintro e w1 ⟨rfl, hb1'⟩
      have B1 := hide (below_next BW.out hb1')
      clear hb1'
      go_wp2_with fail
      go_ret
      exact ⟨rfl, B1.out⟩
    · rw [show ((W.getD k (0, 0)).1 == d) = false by simpa using HF.out k (by omega)] at HLt
      go_wp2_with fail
      refine HLt.out.mono ?_
      rintro e w1 ⟨rfl, hb1'⟩
      have B1 := hide (below_next BW.out hb1')
      clear hb1'
      go_wp2_with fail
      go_roundw
      case rel => exact ⟨k + 1, by omega, by go_num, B1⟩
      case measure => simp [intOf]; omega
def shiftE (ps : List Nat) (i m : Nat) : List Nat := (ps.eraseIdx i).take m ++ ps.drop m
theorem shiftE_start (ps : List Nat) {i : Nat} (hi : i < ps.length) : shiftE ps i i = ps := by
  unfold shiftE
  have h : (ps.eraseIdx i).take i = ps.take i := by
    apply List.ext_getElem?
    intro j
    by_cases hj : j < i
    · rw [List.getElem?_take, List.getElem?_take, if_pos hj, if_pos hj, List.getElem?_eraseIdx, if_pos hj]
    · rw [List.getElem?_take, List.getElem?_take, if_neg hj, if_neg hj]
  rw [h, List.take_append_drop]
theorem shiftE_length (ps : List Nat) {i m : Nat} (hi : i < ps.length) (hm : m + 1 ≤ ps.length) : (shiftE ps i m).length = ps.length := by
  simp [shiftE, List.length_eraseIdx, hi]; omega
theorem shiftE_next (ps : List Nat) {i m : Nat} (hi : i < ps.length) (him : i ≤ m) (hm : m + 1 < ps.length) : (shiftE ps i m).getD (m + 1) 0 = ps.getD (m + 1) 0 := by
  have h1 : ((ps.eraseIdx i).take m).length = m := by simp [List.length_eraseIdx, hi]; omega
  simp only [shiftE, List.getD_eq_getElem?_getD]
  rw [List.getElem?_append_right (by omega), h1, List.getElem?_drop]
  congr 2
  omega
theorem shiftE_step (ps : List Nat) {i m : Nat} (hi : i < ps.length) (him : i ≤ m) (hm : m + 1 < ps.length) : (shiftE ps i m).set m (ps.getD (m + 1) 0) = shiftE ps i (m + 1) := by
  have h1 : ((ps.eraseIdx i).take m).length = m := by simp [List.length_eraseIdx, hi]; omega
  have hel : (ps.eraseIdx i).length = ps.length - 1 := by simp [List.length_eraseIdx, hi]
  unfold shiftE
  rw [List.set_append_right _ _ (by omega), h1, Nat.sub_self]
  have hd : ps.drop m = ps[m] :: ps.drop (m + 1) := List.drop_eq_getElem_cons (by omega)
  rw [hd, List.set_cons_zero, List.take_add_one, List.getElem?_eq_getElem (by omega : m < (ps.eraseIdx i).length)]
  rw [List.append_assoc]
  congr 1
  have he : (ps.eraseIdx i)[m]'(by omega) = ps.getD (m + 1) 0 := by
    rw [List.getElem_eraseIdx_of_ge (by omega) him, List.getD_eq_getElem?_getD, List.getElem?_eq_getElem hm]
    rfl
  rw [he]
  rfl
theorem row_drop {w : World} {B g n c : Nat} {e : TypeId} {xs : List Value} (h : w.ownsRow B e 1 (.slice (some ⟨g, 0, none⟩) n c) n xs) (hn : 0 < n) : w.ownsRow B e 1 (.slice (some ⟨g, 0, none⟩) (n - 1) c) (n - 1) (xs.take (n - 1)) := by
  rcases h.2 with ⟨h', hh⟩ | ⟨g', cap, cur, h', hb, hh, hnc, hcm, hcs, htake⟩
  · omega
  · simp only [Value.slice.injEq, Option.some.injEq, Addr.mk.injEq, and_true, true_and] at h'
    obtain ⟨rfl, rfl⟩ := h'
    refine ⟨by have := h.1; simp at this ⊢; omega, .inr ⟨g, c, cur, rfl, hb, hh, by omega, hcm, hcs, ?_⟩⟩
    simp only [Nat.mul_one] at htake ⊢
    rw [← htake, List.take_take]
    congr 1
    omega
theorem getD_erase {α : Type} (l : List α) (z : α) {i j : Nat} : (l.eraseIdx i).getD j z = if j < i then l.getD j z else l.getD (j + 1) z := by
  rw [List.getD_eq_getElem?_getD, List.getElem?_eraseIdx]
  split <;> rw [List.getD_eq_getElem?_getD]
set_option maxRecDepth 100000 in
set_option maxHeartbeats 6400000 in
theorem deleteFunc_one (B g c i cb : Nat) (ps : List Nat) (W : List Wn) (d : Int) (w : World) (h : OwnP B w (.slice (some ⟨g, 0, none⟩) W.length c) ps W) (hl : W.length ≤ 1048576) (hi : i < W.length) (hd : (W.getD i (0, 0)).1 = d) (hf : ∀ j, j < W.length → j ≠ i → (W.getD j (0, 0)).1 ≠ d) (hc : w.cell? ⟨cb, 0, none⟩ = some (.int .i64 d)) (hcg : cb ≠ g) :
    Calls Tryz.prog 119 #[.slice (some ⟨g, 0, none⟩) W.length c, .func (.func 120) #[] #[.pointer (some ⟨cb, 0, none⟩)]] w fun e w' => e = .returned (.slice (some ⟨g, 0, none⟩) (W.length - 1) c) ∧ OwnP B w' (.slice (some ⟨g, 0, none⟩) (W.length - 1) c) (ps.eraseIdx i) (W.eraseIdx i) ∧ Kept (fun b => b = g) w w' := by
  have eg : ∀ args w, (callFunc 120 args).run Tryz.prog w = .ok (.enter 120 args) w := enters_of Tryz.func120 (by kernel_rfl) rfl
  have hcl := World.block_lt_of_cell? w ⟨cb, 0, none⟩ hc
  have HIX := hide (indexFunc_one (some ⟨g, 0, none⟩) c i cb ps W d w h.rd hl hi hd (fun j hj => hf j (by omega) (by omega)) hc)
  have HLen := hide h.len
  have hcap := ownsRow_cap h.row
  have hpl : i < ps.length := by have := h.len; omega
  have HO := hide h
  have HF := hide hf
  have HCc := hide hc
  have HPG : Hid (∀ j, j < W.length → ps.getD j 0 ≠ g) := hide (fun j hj => row_box h.row h.len.symm (h.box j hj).2.1 g rfl (by omega))
  have hi1 : ((i : Int) == -1) = false := by simp
  clear h hf hc hd
  go_enter Tryz.func119, Tryz.ntmps119
  go_wp2_with fail
  refine HIX.out.mono ?_
  rintro e w1 ⟨rfl, hb1⟩
  have B1 := hide hb1
  clear hb1 HIX
  go_wp2_with fail
  go_loopw [5, 6, 7] (fun m q _ wr => ∃ k : Nat, i ≤ k ∧ k + 1 ≤ W.length ∧ m = .int .i64 k ∧ q = .int .i64 (k + 1 : Nat) ∧ Hid (wr.ownsRow B 123 1 (.slice (some ⟨g, 0, none⟩) W.length c) W.length ((shiftE ps i k).map ptrV)) ∧ Hid (Kept (fun b => b = g) w wr)) (fun _ q _ _ => W.length - (intOf q).toNat)
  case atStart => exact ⟨i, Nat.le_refl _, by omega, rfl, rfl, hide (by rw [shiftE_start ps hpl]; exact ownsRow_below HO.out.row B1.out), hide (Kept.of_below B1.out)⟩
  case round =>
    obtain ⟨k, hik, hk, rfl, rfl, OR, KP⟩ := hrel
    have hk0 : (0 : Int) ≤ (k : Int) := by omega
    have hkl : k < ps.length := by have := HLen.out; omega
    have hsl : (shiftE ps i k).length = W.length := by have := shiftE_length ps hpl (by have := HLen.out; omega : k + 1 ≤ ps.length); have h2 := HLen.out; omega
    have hgl : g < wr.heap.size := (OR.out.lt g rfl).2
    by_cases hlt : k + 1 < W.length
    · have hcell := World.ownsRow.cellAt OR.out (k + 1) (by omega)
      have hcc : wr.cell? ⟨g, k + 1, none⟩ = some (ptrV (ps.getD (k + 1) 0)) := by
        have h1 : ((shiftE ps i k).map ptrV)[k + 1]? = some (ptrV ((shiftE ps i k).getD (k + 1) 0)) := by
          rw [List.getElem?_map, List.getElem?_eq_getElem (by omega : k + 1 < (shiftE ps i k).length), List.getD_eq_getElem?_getD, List.getElem?_eq_getElem (by omega : k + 1 < (shiftE ps i k).length)]
          rfl
        rw [h1, shiftE_next ps hpl hik (by have := HLen.out; omega)] at hcell
        exact hcell
      have hbx := (HO.out.box (k + 1) hlt).2.1
      have hpx : wr.cell? ⟨ps.getD (k + 1) 0, 0, none⟩ = some (.int .i64 (W.getD (k + 1) (0, 0)).1) := (KP.out.cell (p := ⟨ps.getD (k + 1) 0, 0, none⟩) hbx.lt (HPG.out (k + 1) hlt)).trans hbx.1
      have HST := hide (shiftE_step ps hpl hik (by have := HLen.out; omega : k + 1 < ps.length))
      have HLt := hide (wantLit_any (ps.getD (k + 1) 0) cb (W.getD (k + 1) (0, 0)).1 d wr hpx ((KP.out.cell (p := ⟨cb, 0, none⟩) hcl hcg).trans HCc.out))
      rw [show ((W.getD (k + 1) (0, 0)).1 == d) = false by simpa using HF.out (k + 1) hlt (by omega)] at HLt
      generalize ps.getD (k + 1) 0 = p at *
      unfold ptrV at hcc
      have hki : ((k + 1 : Nat) : Int) < (W.length : Int) := by omega
      have hki0 : (0 : Int) ≤ ((k + 1 : Nat) : Int) := by omega
      have hkw : (k : Int) < (W.length : Int) := by omega
      clear hcell hbx hpx
      go_wp2_with fail
      refine HLt.out.mono ?_
      rintro e w2 ⟨rfl, hb2⟩
      have R2 := hide (ownsRow_below OR.out hb2)
      have K2 := hide (KP.out.trans (Kept.of_below hb2))
      have m0 : ∃ u, w2.cell? ⟨g, k, none⟩ = some u := by
        have h1 := World.ownsRow.cellAt R2.out k (by omega)
        rw [List.getElem?_map, List.getElem?_eq_getElem (by omega : k < (shiftE ps i k).length)] at h1
        exact ⟨_, h1⟩
      obtain ⟨u0, m0⟩ := m0
      have m1 := World.ownsRow.frozenAt R2.out k
      clear hb2 hcc HLt
      go_wp2_with fail
      go_roundw
      case rel =>
        refine ⟨k + 1, by omega, by omega, by go_num, by go_num, hide ?_, hide (K2.out.trans (Kept.one w2 g k _))⟩
        have h1 := (R2.out.stored k (ptrV p)).1
        rw [← List.map_set, HST.out] at h1
        exact h1
      case measure => simp [intOf]; omega
    · have HKE := hide (show k + 1 = W.length by omega)
      have hkn : ¬ ((k + 1 : Nat) : Int) < (W.length : Int) := by omega
      have hkw : (k : Int) ≤ (W.length : Int) := by omega
      have hkc : (k : Int) ≤ (c : Int) := by omega
      have hwc : (W.length : Int) ≤ (c : Int) := by omega
      have m0 : ∃ u, wr.cell? ⟨g, k, none⟩ = some u := by
        have h1 := World.ownsRow.cellAt OR.out k (by omega)
        rw [List.getElem?_map, List.getElem?_eq_getElem (by omega : k < (shiftE ps i k).length)] at h1
        exact ⟨_, h1⟩
      obtain ⟨u0, m0⟩ := m0
      have m1 := World.ownsRow.frozenAt OR.out k
      have hclr : ∀ ty, (Builtin.clear_ #[95] ty #[.slice (some ⟨g, k, none⟩) (W.length - k) (c - k)]).run Tryz.prog wr = .ok (.tuple #[]) (wr.setCell ⟨g, k, none⟩ (.pointer none)) := fun ty => by
        rw [show W.length - k = 1 by omega]
        have h1 := Go.Lib.run_clear_slice (P := Tryz.prog) wr 95 123 ty (.pointer none) Tryz.underlying95 (fun _ => by kernel_rfl) rfl rfl g k 1 (c - k) (by omega) (fun j hj => by
          obtain rfl : j = 0 := by omega
          rw [Nat.add_zero, m0]; rfl) (fun j hj => by
          obtain rfl : j = 0 := by omega
          rw [Nat.add_zero]; exact m1)
        rw [h1]
        simp [World.setCells]
      have R3 : Hid ((wr.setCell ⟨g, k, none⟩ (.pointer none)).ownsRow B 123 1 (.slice (some ⟨g, 0, none⟩) W.length c) W.length (((shiftE ps i k).map ptrV).set k (.pointer none))) := hide (OR.out.stored k (.pointer none)).1
      have K3 := hide (KP.out.trans (Kept.one wr g k (.pointer none)))
      clear m0 m1
      go_wp2_with fail
      go_ret
      have e1 : W.length - 1 = k := by have := HKE.out; omega
      have e2 : (W.eraseIdx i).length = k := by rw [List.length_eraseIdx, if_pos hi]; exact e1
      have e3 : (ps.eraseIdx i).length = k := by rw [List.length_eraseIdx, if_pos hpl, HLen.out]; exact e1
      rw [e1]
      refine ⟨rfl, ⟨?_, by rw [e2, e3], fun j hj => ?_, List.Nodup.sublist (List.eraseIdx_sublist _ _) HO.out.one⟩, K3.out⟩
      · have h1 := row_drop R3.out (by omega)
        rw [e1] at h1
        rw [e2]
        have h2 : (((shiftE ps i k).map ptrV).set k (.pointer none)).take k = (ps.eraseIdx i).map ptrV := by
          rw [List.take_set_of_le (Nat.le_refl _), ← List.map_take]
          congr 1
          unfold shiftE
          rw [List.take_of_length_le (by omega : (ps.eraseIdx i).length ≤ k), List.take_append_of_le_length (by omega), List.take_of_length_le (by omega)]
        rw [h2] at h1
        exact h1
      · rw [e2] at hj
        rw [getD_erase, getD_erase]
        by_cases hji : j < i
        · simp only [if_pos hji]
          have hx := HO.out.box j (by omega)
          exact ⟨hx.1, hx.2.kept K3.out (HPG.out j (by omega))⟩
        · simp only [if_neg hji]
          have hx := HO.out.box (j + 1) (by have := HKE.out; omega)
          exact ⟨hx.1, hx.2.kept K3.out (HPG.out (j + 1) (by have := HKE.out; omega))⟩
set_option maxRecDepth 100000 in
set_option maxHeartbeats 3200000 in
theorem wantNoMore_any (B fb i : Nat) (W : List Wn) (F : List Int) (L : List Ch) (wa : Option Addr) (wk : Nat) (ps : List Nat) (fa : Option Addr) (fc bm N : Nat) (d : Int) (w : World) (h : NowF B fb w W F L wa wk ps fa fc bm N) (hB : B ≤ fb) (hl : W.length ≤ 1048576) (hi : i < W.length) (hd : (W.getD i (0, 0)).1 = d) (hf : ∀ j, j < W.length → j ≠ i → (W.getD j (0, 0)).1 ≠ d) :
    Calls Tryz.prog 89 #[.pointer (some ⟨fb, 0, none⟩), .int .i64 d] w fun e w' => e = .returned (.tuple #[]) ∧ NowF B fb w' (W.eraseIdx i) F L wa wk (ps.eraseIdx i) fa fc bm N ∧ Below fb w w' ∧ Kept (fun b => b = fb ∨ (Value.slice wa W.length wk).ownBlock = some b) w w' := by
  have hmf : ∀ (fn : Fn) (first cap : Array Value) (w : World), (Instr.makeFunc fn first cap).run Tryz.prog w = .ok (.func fn first cap) w := fun _ _ _ _ => rfl
  have A1 := hide (below_alloc w (.cells #[.int .i64 d] 2))
  have N1 := hide (h.below A1.out)
  have hfl := h.box.lt
  obtain ⟨g, cap, cur, hv, hgB, -⟩ : ∃ g cap cur, Value.slice wa W.length wk = .slice (some ⟨g, 0, none⟩) W.length cap ∧ fb + 1 ≤ g ∧ cur = () := by
    rcases h.wants.row.2 with ⟨h', hh⟩ | ⟨g, cap, cur, h', hb, _⟩
    · omega
    · exact ⟨g, cap, (), by simpa using h', hb, rfl⟩
  simp only [Value.slice.injEq, true_and] at hv
  obtain ⟨rfl, rfl⟩ := hv
  have hgl := (h.wants.row.lt g rfl).2
  have HDF := hide (deleteFunc_one (fb + 1) g wk i w.heap.size ps W d _ N1.out.wants hl hi hd hf (by simp) (by omega))
  have el : (W.eraseIdx i).length = W.length - 1 := by rw [List.length_eraseIdx, if_pos hi]
  obtain ⟨⟨x0, x1, x2⟩, x3, x4, x5⟩ := N1.out.box
  clear h hd hf
  go_enter Tryz.func89, Tryz.ntmps89
  go_wp2_with fail
  refine HDF.out.mono ?_
  rintro e w2 ⟨rfl, hO2, hk2⟩
  have O2 := hide hO2
  have K2 := hide hk2
  have X2 := hide (N1.out.box.kept hk2 (by omega))
  clear hO2 hk2 x0 x1 x2 x3 x4 x5
  obtain ⟨⟨x0, x1, x2⟩, x3, x4, x5⟩ := X2.out
  go_wp2_with fail
  have hk4 := Kept.one w2 fb 0 (.slice (some ⟨g, 0, none⟩) (W.length - 1) wk)
  refine bodyPost_end (v := .tuple #[]) (by simp [results, Tryz.results89, go_sem]) rfl ⟨rfl, ⟨?_, ?_, ?_, N1.out.ahead, ?_, N1.out.low, N1.out.high, N1.out.room⟩, ?_, ?_⟩
  · rw [el]; exact X2.out.set0 _
  · rw [el]; exact O2.out.kept hk4 (fun b hb e => by omega)
  · exact ownsRow_kept (ownsRow_kept N1.out.failed K2.out (fun b hb e => by have := N1.out.ahead b hb; omega)) hk4 (fun b hb e => by have := N1.out.ahead b hb; omega)
  · refine (N1.out.held.kept K2.out (fun e => ?_) (fun x hx => ?_)).kept hk4 (fun e => ?_) (fun x hx => ?_)
    · have h2 := N1.out.high; omega
    · omega
    · have h2 := N1.out.high; omega
    · omega
  · have hb2 : Below fb w (w.alloc (.cells #[.int .i64 d] 2)) := A1.out.mono (by omega)
    exact (hb2.trans (K2.out.below (B := fb) (by simp; omega) (fun j hj e => by omega))).setCell (Nat.le_refl _) _
  · exact ((Kept.of_below A1.out).trans (K2.out.mono (fun k hk e => Or.inr (by subst e; rfl)))).trans (hk4.mono (fun k hk e => Or.inl e))
end Go.Proofs.YtfamiehfpmjljaaGreatDoor

namespace Go.Proofs.YtfamiehfpmjljaaGreatDoor
open Go.RowKit Go.Maps
set_option linter.unusedVariables false

set_option maxHeartbeats 800000 in
theorem lostTry_more (p : Nat) (d t : Int) (w : World) (h : Box w p (.int .i64 d) (.int .i64 t)) (h0 : 0 ≤ t) (h3 : t + 1 < 3) :
    Calls Tryz.prog 96 #[.pointer (some ⟨p, 0, none⟩)] w fun e w' => e = .returned .nilIface ∧ w' = w.setCell ⟨p, 1, none⟩ (.int .i64 (t + 1)) := by
  obtain ⟨⟨m0, m1⟩, f0, f1⟩ := h
  have hw : IntKind.i64.wrap (t + 1) = t + 1 := by simp [IntKind.wrap, IntKind.signed, IntKind.bits]; omega
  have hs : (w.setCell ⟨p, 1, none⟩ (.int .i64 (t + 1))).cell? ⟨p, 1, none⟩ = some (.int .i64 (t + 1)) := cell_set_same m1
  go_enter Tryz.func96, Tryz.ntmps96
  go_wp2_with fail
  go_ret
  exact ⟨rfl, rfl⟩
set_option maxHeartbeats 800000 in
theorem lostTry_last (p : Nat) (d t : Int) (w : World) (h : Box w p (.int .i64 d) (.int .i64 t)) (h0 : 0 ≤ t) (h9 : t ≤ 9) (h3 : ¬ t + 1 < 3) :
    Calls Tryz.prog 96 #[.pointer (some ⟨p, 0, none⟩)] w fun e w' => e = .returned (.iface 131 (.agg #[.int .i64 d])) ∧ w' = w.setCell ⟨p, 1, none⟩ (.int .i64 (t + 1)) := by
  obtain ⟨⟨m0, m1⟩, f0, f1⟩ := h
  have hw : IntKind.i64.wrap (t + 1) = t + 1 := by simp [IntKind.wrap, IntKind.signed, IntKind.bits]; omega
  have hs : (w.setCell ⟨p, 1, none⟩ (.int .i64 (t + 1))).cell? ⟨p, 1, none⟩ = some (.int .i64 (t + 1)) := cell_set_same m1
  have hs0 : (w.setCell ⟨p, 1, none⟩ (.int .i64 (t + 1))).cell? ⟨p, 0, none⟩ = some (.int .i64 d) := by rw [cell_set_other (by simp)]; exact m0
  go_enter Tryz.func96, Tryz.ntmps96
  go_wp2_with fail
  go_ret
  exact ⟨rfl, rfl⟩
theorem getD_set {α : Type} (l : List α) (z x : α) {i j : Nat} (hi : i < l.length) : (l.set i x).getD j z = if j = i then x else l.getD j z := by
  rw [List.getD_eq_getElem?_getD, List.getElem?_set, List.getD_eq_getElem?_getD]
  by_cases h : i = j
  · subst h; simp [hi]
  · rw [if_neg h, if_neg (fun e => h e.symm)]
theorem OwnP.tries {B : Nat} {w : World} {v : Value} {ps : List Nat} {W : List Wn} (h : OwnP B w v ps W) {i : Nat} (hi : i < W.length) (d t : Int) (hd : (W.getD i (0, 0)).1 = d) : OwnP B (w.setCell ⟨ps.getD i 0, 1, none⟩ (.int .i64 t)) v ps (W.set i (d, t)) := by
  have hk := Kept.one w (ps.getD i 0) 1 (.int .i64 t)
  have hown : ∀ b, v.ownBlock = some b → b ≠ ps.getD i 0 := fun b hb e => row_box h.row h.len.symm (h.box i hi).2.1 b hb (by omega) e.symm
  refine ⟨by rw [List.length_set]; exact ownsRow_kept h.row hk (fun b hb e => hown b hb e), by rw [List.length_set]; exact h.len, fun j hj => ?_, h.one⟩
  rw [List.length_set] at hj
  rw [getD_set W (0, 0) (d, t) hi]
  by_cases e : j = i
  · subst e
    rw [if_pos rfl]
    obtain ⟨h1, ⟨m0, m1⟩, f0, f1⟩ := h.box j hj
    refine ⟨h1, ⟨?_, cell_set_same m1⟩, ?_, ?_⟩
    · rw [cell_set_other (by simp), ← hd]; exact m0
    · rw [World.frozen?_setCell]; exact f0
    · rw [World.frozen?_setCell]; exact f1
  · rw [if_neg e]
    refine ⟨(h.box j hj).1, (h.box j hj).2.kept hk (fun hq => e ?_)⟩
    have hn := h.one
    rw [List.nodup_iff_pairwise_ne, List.pairwise_iff_getElem] at hn
    have hj' : j < ps.length := by rw [h.len]; exact hj
    have hi' : i < ps.length := by rw [h.len]; exact hi
    rw [List.getD_eq_getElem?_getD, List.getElem?_eq_getElem hj', List.getD_eq_getElem?_getD, List.getElem?_eq_getElem hi'] at hq
    rcases Nat.lt_trichotomy j i with hlt | heq | hlt
    · exact absurd hq (hn j i hj' hi' hlt)
    · exact heq
    · exact absurd hq.symm (hn i j hi' hj' hlt)
set_option maxRecDepth 100000 in
set_option maxHeartbeats 1600000 in
theorem lose_none (B fb : Nat) (W : List Wn) (F : List Int) (L : List Ch) (wa : Option Addr) (wk : Nat) (ps : List Nat) (fa : Option Addr) (fc bm N : Nat) (d : Int) (a0 a1 : Addr) (w : World) (hg : Ge w a0 a1) (h : NowF B fb w W F L wa wk ps fa fc bm N) (hl : W.length ≤ 1048576) (hf : ∀ j, j < W.length → (W.getD j (0, 0)).1 ≠ d) :
    Calls Tryz.prog 58 #[.pointer (some ⟨fb, 0, none⟩), .int .i64 d] w fun e w' => e = .returned (.iface 262 (.pointer (some a0))) ∧ w' = w := by
  have HW := hide (wanted_no fb wa wk ps W d w h.box.1.1 h.wants.rd hl hf)
  have g0 := hg.e0
  clear h hg hf
  go_enter Tryz.func58, Tryz.ntmps58
  go_wp2_with fail
  refine HW.out.mono ?_
  rintro e w ⟨rfl, rfl⟩
  go_wp2_with fail
  go_ret
  exact ⟨rfl, rfl⟩
set_option maxRecDepth 100000 in
set_option maxHeartbeats 3200000 in
theorem lose_more (B fb i : Nat) (W : List Wn) (F : List Int) (L : List Ch) (wa : Option Addr) (wk : Nat) (ps : List Nat) (fa : Option Addr) (fc bm N : Nat) (d t : Int) (w : World) (h : NowF B fb w W F L wa wk ps fa fc bm N) (hB : B ≤ fb) (hl : W.length ≤ 1048576) (hi : i < W.length) (hd : W.getD i (0, 0) = (d, t)) (hf : ∀ j, j < i → (W.getD j (0, 0)).1 ≠ d) (h0 : 0 ≤ t) (h3 : t + 1 < 3) :
    Calls Tryz.prog 58 #[.pointer (some ⟨fb, 0, none⟩), .int .i64 d] w fun e w' => e = .returned .nilIface ∧ NowF B fb w' (W.set i (d, t + 1)) F L wa wk ps fa fc bm N ∧ Below fb w w' := by
  have hd1 : (W.getD i (0, 0)).1 = d := by rw [hd]
  have HW := hide (wanted_yes fb wa wk i ps W d w h.box.1.1 h.wants.rd hl hi hd1 hf (ps.getD i 0) rfl)
  have A1 := hide (below_alloc w (.cells #[.int .i64 0] 131))
  have N1 := hide (h.below A1.out)
  have hbx := (N1.out.wants.box i hi)
  rw [hd] at hbx
  have HLT := hide (lostTry_more (ps.getD i 0) d t _ hbx.2 h0 h3)
  have hpl := hbx.1
  have HT := hide (N1.out.wants.tries hi d (t + 1) hd1)
  have hfl := h.box.lt
  clear h hf hbx hd hd1
  generalize ps.getD i 0 = p at *
  go_enter Tryz.func58, Tryz.ntmps58
  go_wp2_with fail
  refine HW.out.mono ?_
  rintro e w ⟨rfl, rfl⟩
  go_wp2_with fail
  refine HLT.out.mono ?_
  rintro e w2 ⟨rfl, rfl⟩
  go_wp2_with fail
  refine (as_nil _ _).mono ?_
  rintro e w2 ⟨rfl, rfl⟩
  go_wp2_with fail
  go_ret
  have hk := Kept.one (w.alloc (.cells #[.int .i64 0] 131)) p 1 (.int .i64 (t + 1))
  have hel : (W.set i (d, t + 1)).length = W.length := List.length_set
  refine ⟨rfl, ⟨?_, ?_, ?_, N1.out.ahead, ?_, N1.out.low, N1.out.high, N1.out.room⟩, ?_⟩
  · rw [hel]; exact N1.out.box.kept hk (by omega)
  · rw [hel]; exact HT.out
  · exact ownsRow_kept N1.out.failed hk (fun b hb e => by have := N1.out.ahead b hb; omega)
  · exact N1.out.held.kept hk (by have := N1.out.high; omega) (fun x hx => by omega)
  · have hb2 : Below fb w (w.alloc (.cells #[.int .i64 0] 131)) := A1.out.mono (by omega)
    exact hb2.setCell (by show fb ≤ p; omega) _
theorem row_map {w : World} {B bm N T s n : Nat} {e : TypeId} {v : Value} {xs : List Value} {L : List Ch} (h : w.ownsRow B e s v n xs) (hH : Holds w bm N L T) : ∀ b, v.ownBlock = some b → b ≠ bm := by
  rintro b hb rfl
  obtain ⟨Dt, A, C, ⟨es, clock, hh, r⟩, _⟩ := hH
  rcases h.2 with ⟨h', _⟩ | ⟨g, cap, cur, rfl, hg, hgg, _⟩
  · rw [h'] at hb; simp [Value.ownBlock] at hb
  · simp only [Value.ownBlock, Option.some.injEq] at hb
    subst hb
    rw [hh] at hgg
    cases hgg
structure EndF (B fb : Nat) (w : World) (W : List Wn) (F : List Int) (L : List Ch) (wa : Option Addr) (wk : Nat) (ps : List Nat) (fa : Option Addr) (fc bm N : Nat) : Prop where
  box : Bx3 w fb (.slice wa W.length wk) (.slice fa F.length fc) (.map (some bm))
  wants : RdP w wa ps W
  failed : w.ownsRow B 2 1 (.slice fa F.length fc) F.length (F.map (Value.int .i64))
  held : Holds w bm N L B
theorem NowF.end {B fb : Nat} {w : World} {W : List Wn} {F : List Int} {L : List Ch} {wa : Option Addr} {wk : Nat} {ps : List Nat} {fa : Option Addr} {fc bm N : Nat} (h : NowF B fb w W F L wa wk ps fa fc bm N) : EndF B fb w W F L wa wk ps fa fc bm N := ⟨h.box, h.wants.rd, h.failed, h.held⟩
set_option maxRecDepth 100000 in
set_option maxHeartbeats 6400000 in
theorem lose_full (B fb i : Nat) (W : List Wn) (F : List Int) (L : List Ch) (wa : Option Addr) (wk : Nat) (ps : List Nat) (fa : Option Addr) (fc bm N : Nat) (d t : Int) (a0 a1 : Addr) (w : World) (hg : Ge w a0 a1) (hgl : ∀ u : World, Below B w u → Ge u a0 a1) (h : NowF B fb w W F L wa wk ps fa fc bm N) (hB : B ≤ fb) (hl : W.length ≤ 1048576) (hi : i < W.length) (hd : W.getD i (0, 0) = (d, t)) (hf : ∀ j, j < i → (W.getD j (0, 0)).1 ≠ d) (h0 : 0 ≤ t) (h9 : t ≤ 9) (h3 : ¬ t + 1 < 3) (h40 : 40 ≤ F.length) :
    Calls Tryz.prog 58 #[.pointer (some ⟨fb, 0, none⟩), .int .i64 d] w fun e w' => e = .returned (.iface 262 (.pointer (some a1))) ∧ Below fb w w' := by
  have hd1 : (W.getD i (0, 0)).1 = d := by rw [hd]
  have HW := hide (wanted_yes fb wa wk i ps W d w h.box.1.1 h.wants.rd hl hi hd1 hf (ps.getD i 0) rfl)
  have A1 := hide (below_alloc w (.cells #[.int .i64 0] 131))
  have N1 := hide (h.below A1.out)
  have hbx := (N1.out.wants.box i hi)
  rw [hd] at hbx
  have HLT := hide (lostTry_last (ps.getD i 0) d t _ hbx.2 h0 h9 h3)
  have hpl := hbx.1
  have hplt := (h.wants.box i hi).2.1.lt
  have hfl := h.box.lt
  have HGL := hide hgl
  have h41 : (40 : Int) ≤ (F.length : Int) := by omega
  clear hf hbx hd hd1 hg hgl
  generalize ps.getD i 0 = p at *
  have HB2 : Hid (Below fb w ((w.alloc (.cells #[.int .i64 0] 131)).setCell ⟨p, 1, none⟩ (.int .i64 (t + 1)))) := hide ((A1.out.mono (by omega)).setCell (by show fb ≤ p; omega) _)
  have hk1 := Kept.one (w.alloc (.cells #[.int .i64 0] 131)) p 1 (.int .i64 (t + 1))
  have X2 := hide (N1.out.box.kept hk1 (by omega))
  have HAH := hide (as_hit d w.heap.size (.int .i64 0) _ (HGL.out _ (HB2.out.mono hB)).ty (by rw [cell_set_far (by omega) (by simp : (w.alloc (.cells #[.int .i64 0] 131)).cell? ⟨w.heap.size, 0, none⟩ = some (.int .i64 0))]) (by rw [World.frozen?_setCell]; simp))
  clear h hk1
  go_enter Tryz.func58, Tryz.ntmps58
  go_wp2_with fail
  refine HW.out.mono ?_
  rintro e w ⟨rfl, rfl⟩
  go_wp2_with fail
  have hsw : w.heap.size < (w.alloc (.cells #[.int .i64 0] 131)).heap.size := by simp
  generalize w.alloc (.cells #[.int .i64 0] 131) = W1 at *
  generalize w.heap.size = q at *
  refine HLT.out.mono ?_
  rintro e w2 ⟨rfl, rfl⟩
  go_wp2_with fail
  refine HAH.out.mono ?_
  rintro e w3 ⟨rfl, hc3, hf3, hk3⟩
  have HB3 := hide (HB2.out.trans (hk3.below (B := fb) (by simp [World.setCell]; omega) (fun k hk e => by omega)))
  obtain ⟨⟨x0, x1, x2⟩, x3, x4, x5⟩ := X2.out.kept hk3 (by omega)
  have g1 := (HGL.out _ (HB3.out.mono hB)).e1
  clear hk3
  go_wp2_with fail
  go_ret
  exact ⟨rfl, HB3.out⟩
end Go.Proofs.YtfamiehfpmjljaaGreatDoor

namespace Go.Proofs.YtfamiehfpmjljaaGreatDoor
open Go.RowKit Go.Maps
set_option linter.unusedVariables false
theorem laidW_set {W : List Wn} {i : Nat} {d t : Int} (hi : i < W.length) (hd : (W.getD i (0, 0)).1 = d) :
    (flat W.length (laidW W.length W)).set (i * 2 + 1) (.int .i64 t) = flat (W.set i (d, t)).length (laidW (W.set i (d, t)).length (W.set i (d, t))) := by
  rw [List.length_set, flat_set (n := W.length) (k := 2) (F := laidW W.length W) (fun i _ => laidW_length _ _ _) i 1 hi (by decide)]
  apply flat_congr
  intro j hj
  by_cases h : j = i
  · subst h
    simp only [laidW, if_pos hj, getD_set W (0, 0) (d, t) hi, hd]
    rfl
  · simp only [laidW, if_pos hj, getD_set W (0, 0) (d, t) hi, if_neg h]
set_option maxRecDepth 100000 in
set_option maxHeartbeats 3200000 in
theorem l10Lose_more (B fb i : Nat) (wa : Option Addr) (wc : Nat) (W : List Wn) (u1 u2 : Value) (d t : Int) (w : World) (hX : Bx3 w fb (.slice wa W.length wc) u1 u2) (hO : OwnW B w (.slice wa W.length wc) W) (hfar : (Value.slice wa W.length wc).ownBlock ≠ some fb) (hWl : W.length ≤ 1048576) (hi : i < W.length) (hd : W.getD i (0, 0) = (d, t)) (h0 : 0 ≤ t) (h3 : t + 1 < 3) :
    Calls Tryz.prog 51 #[.pointer (some ⟨fb, 0, none⟩), .int .i64 i] w fun e w' => e = .returned (.int .i64 0) ∧ OwnW B w' (.slice wa W.length wc) (W.set i (d, t + 1)) ∧ Kept (fun b => (Value.slice wa W.length wc).ownBlock = some b) w w' := by
  obtain ⟨g, rfl, hc⟩ := ownsRow_addr hO (.inl (by omega))
  have hl := flat_length (n := W.length) (k := 2) (F := laidW W.length W) (fun i _ => laidW_length _ _ _)
  have hz1 : (flat W.length (laidW W.length W))[i * 2 + 1]? = some (.int .i64 t) := by
    rw [flat_get (n := W.length) (k := 2) (F := laidW W.length W) (fun i _ => laidW_length _ _ _) i 1 hi (by decide)]
    simp only [laidW, if_pos hi, hd]
    rfl
  have m1 : w.cell? ⟨g, i * 2 + 1, none⟩ = some (.int .i64 t) := (World.ownsRow.cellAt hO (i * 2 + 1) (by omega)).trans hz1
  have m2 := World.ownsRow.frozenAt hO (i * 2 + 1)
  have HS := hide (laidW_set (t := t + 1) hi (by rw [hd] : (W.getD i (0, 0)).1 = d))
  have HO := hide hO
  have hne : ¬ g = fb := fun e => hfar (by subst e; rfl)
  have hne' : ¬ fb = g := fun e => hne e.symm
  have hi0 : (0 : Int) ≤ (i : Int) := by omega
  have hi1 : (i : Int) < (W.length : Int) := by omega
  have hwr : IntKind.i64.wrap (t + 1) = t + 1 := by simp [IntKind.wrap, IntKind.signed, IntKind.bits]; omega
  clear hO hz1 hd hl hfar
  go_enter Tryz.func51, Tryz.ntmps51
  obtain ⟨⟨t0, t1, t2⟩, z0, -, -⟩ := hX
  go_wp2_with fail
  go_ret
  refine ⟨rfl, ?_, (Kept.one w g (i * 2 + 1) _).mono (fun b _ hb => by subst hb; rfl)⟩
  have h5 := (HO.out.stored (i * 2 + 1) (.int .i64 (t + 1))).1
  rw [HS.out] at h5
  have hln : (W.set i (d, t + 1)).length = W.length := by simp
  unfold OwnW
  rw [hln] at h5 ⊢
  exact h5
set_option maxRecDepth 100000 in
set_option maxHeartbeats 3200000 in
theorem l10Lose_full (B fb i : Nat) (wa : Option Addr) (wc : Nat) (W : List Wn) (fa : Option Addr) (fc fn : Nat) (u2 : Value) (d t : Int) (w : World) (hX : Bx3 w fb (.slice wa W.length wc) (.slice fa fn fc) u2) (hO : OwnW B w (.slice wa W.length wc) W) (hfar : (Value.slice wa W.length wc).ownBlock ≠ some fb) (hWl : W.length ≤ 1048576) (hi : i < W.length) (hd : W.getD i (0, 0) = (d, t)) (h0 : 0 ≤ t) (h9 : t ≤ 9) (h3 : ¬ t + 1 < 3) (h40 : 40 ≤ fn) :
    Calls Tryz.prog 51 #[.pointer (some ⟨fb, 0, none⟩), .int .i64 i] w fun e w' => e = .returned (.int .i64 2) ∧ Kept (fun b => (Value.slice wa W.length wc).ownBlock = some b) w w' := by
  obtain ⟨g, rfl, hc⟩ := ownsRow_addr hO (.inl (by omega))
  have hl := flat_length (n := W.length) (k := 2) (F := laidW W.length W) (fun i _ => laidW_length _ _ _)
  have hz1 : (flat W.length (laidW W.length W))[i * 2 + 1]? = some (.int .i64 t) := by
    rw [flat_get (n := W.length) (k := 2) (F := laidW W.length W) (fun i _ => laidW_length _ _ _) i 1 hi (by decide)]
    simp only [laidW, if_pos hi, hd]
    rfl
  have m1 : w.cell? ⟨g, i * 2 + 1, none⟩ = some (.int .i64 t) := (World.ownsRow.cellAt hO (i * 2 + 1) (by omega)).trans hz1
  have m2 := World.ownsRow.frozenAt hO (i * 2 + 1)
  have hne : ¬ g = fb := fun e => hfar (by subst e; rfl)
  have hne' : ¬ fb = g := fun e => hne e.symm
  have hi0 : (0 : Int) ≤ (i : Int) := by omega
  have hi1 : (i : Int) < (W.length : Int) := by omega
  have hwr : IntKind.i64.wrap (t + 1) = t + 1 := by simp [IntKind.wrap, IntKind.signed, IntKind.bits]; omega
  have hf0 : (40 : Int) ≤ (fn : Int) := by omega
  clear hO hz1 hd hl hfar
  go_enter Tryz.func51, Tryz.ntmps51
  obtain ⟨⟨t0, t1, t2⟩, z0, -, -⟩ := hX
  go_wp2_with fail
  go_ret
  exact ⟨rfl, (Kept.one w g (i * 2 + 1) _).mono (fun b _ hb => by subst hb; rfl)⟩
end Go.Proofs.YtfamiehfpmjljaaGreatDoor

