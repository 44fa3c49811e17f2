/-
  The program's AboveOf, ParentOf and IsBelow.
-/
import Derived.Test.YtcknabinmbknaaaGreatDoorJ1
namespace Go.Proofs.YtcknabinmbknaaaGreatDoor
open Go.RowKit Go.Shelf
set_option linter.unusedVariables false
attribute [local go_sem] Oper.semAt_some

theorem join_len'' : ∀ (ns : List Bs) (m : Nat), (∀ n ∈ ns, n.length ≤ m) → (joinB ns).length ≤ (m + 1) * ns.length
  | [], _, _ => by simp [joinB]
  | n :: ns, m, h => by
    have := join_len'' ns m (fun x hx => h x (by simp [hx]))
    have := h n (by simp)
    simp only [joinB, List.length_cons, List.length_append, Nat.mul_add, Nat.mul_one]; omega
/-- append(out, x) inside a fence: x laid in a block of its own, out owned. -/
theorem wpListIn_append_one {F : Fence} {m : Nat} {P : Program} {wr : World} {news : Array Value} {ops : Array Oper} {rest : List Oper} {o : Oper} {a : Act} {Q : Exit → Act → World → Prop} (hgd : o.guard = none) (s x : Operand) (t : TypeId)
    (ho : o.op = .call { callee := .builtin .append, args := #[s, x], argTypes := #[t, t] })
    (base : Nat) (e : TypeId) (i : TypeInfo) (z : Value) (size bytes : Nat) (ht : P.underlying t = some (.slice e)) (hi : P.info? e = some i) (hz : i.zero = some z)
    (hsize : i.size = size) (hby : i.bytes = bytes) (hzs : z.cells.size = size) (hsz : 0 < size)
    (v : Value) (n : Nat) (xs : List Value) (hs : a.eval s = v) (hown : wr.ownsRow base e size v n xs)
    (hx : a.eval x = .slice (some ⟨wr.heap.size, 0, none⟩) 1 1) (hl : news.size = size) (h1 : ∀ u ∈ news.toList, u.oneCell' = true)
    (h63 : n + 1 ≤ maxLen) (hbytes : (n + 1) * bytes ≤ 140737488355328) (hbase : base ≤ wr.heap.size)
    (h : ∀ v' w', w'.ownsRow base e size v' (n + 1) (xs ++ news.toList) → Kept (fun b => v.ownBlock = some b) wr w' → KeepsOthers wr w' → wpListIn F m P ops Q rest (a.put o.dst v') w') :
    wpListIn F m P ops Q (o :: rest) a (wr.alloc (.cells news e)) := by
  refine wpListIn_append_own _ hgd s x t ho base e i z size bytes ht hi hz hsize hby hzs hsz v n xs hs (hown.alloc _) ⟨wr.heap.size, 0, none⟩ 1 1 news.toList hx (by simp [hl]) ?_ h1 h63 hbytes (by simp; omega) ?_
  · intro j u hj
    have hadd : (⟨wr.heap.size, 0, none⟩ : Addr).add j = ⟨wr.heap.size, j, none⟩ := by unfold Addr.add; split <;> simp_all
    rw [hadd, cell_of_row _ wr.heap.size j news e (0, 0) (heap_alloc_new wr _)]
    simpa using hj
  · intro v' w' ho' hg _
    refine h v' w' ho' ⟨hg.os, hg.tape, hg.output, Nat.le_trans (by simp) hg.size, fun k hk hn => ?_⟩ ?_
    · rw [hg.block k (by simp; omega) (fun e => hn e.symm)]
      exact Below.heap_alloc _ _ _ hk
    · refine (KeepsOthers.alloc wr _).trans (KeepsOthers.of_grownBy hg fun j o ej hj => ?_)
      rcases (hown.alloc (.cells news e)).2 with ⟨rfl, _⟩ | ⟨g, cap, cur, rfl, _, hgb, _⟩
      · simp [Value.ownBlock] at ej
      · obtain rfl : g = j := by simpa [Value.ownBlock] using ej
        rw [hgb] at hj; cases hj; rfl

theorem boxed_kept {S : Nat → Prop} {W W' : World} {B : Nat} {t : TypeId} {v : Value} (h : Boxed W B t v) (hk : Kept S W W') (hn : ¬ S B) : Boxed W' B t v := (hk.block B h.lt hn).trans h
/-- A list in a box, its row beyond R: what is no cells may turn. -/
theorem ownS_own {β : Type} (R : Nat) (B : Nat) (t : TypeId) (f : β → List Bs) : Go.Own (fun s W => ∃ v, Boxed W B t v ∧ OwnS R W v (f s)) := by
  have := holdsRow_own (β := β) R B t 9 1 (fun s => (f s).length) (fun s => (f s).map vS) (fun _ _ => True)
  intro s W W' row hs hg hr
  obtain ⟨v, hv, hrow⟩ := hs
  obtain ⟨v', hv', hrow', _⟩ := this s W W' row ⟨v, hv, hrow, trivial⟩ hg hr
  exact ⟨v', hv', hrow'⟩

theorem aboveN_snoc (ps : List Bs) (x : Bs) (h : ps ≠ []) : aboveN (ps ++ [x]) = aboveN ps ++ [joinB ps] := by
  have hp := List.length_pos_iff.2 h
  obtain ⟨k, hk⟩ : ∃ k, ps.length = k + 1 := ⟨ps.length - 1, by omega⟩
  unfold aboveN
  have e1 : (ps ++ [x]).length - 1 = k + 1 := by simp; omega
  have e2 : ps.length - 1 = k := by omega
  rw [e1, e2, List.range_succ, List.map_append]
  congr 1
  · apply List.map_congr_left
    intro j hj
    have : j < k := by simpa using hj
    rw [List.take_append_of_le_length (by omega)]
  · simp [List.take_append_of_le_length (show k + 1 ≤ ps.length by omega), List.take_of_length_le (show ps.length ≤ k + 1 by omega)]
theorem aboveN_one (x : Bs) : aboveN [x] = [] := rfl
theorem join_snoc (ps : List Bs) (x : Bs) : str (joinB ps) ++ ((⟨#[47]⟩ : ByteArray) ++ str x) = str (joinB (ps ++ [x])) := by
  have e : (⟨#[47]⟩ : ByteArray) = str [47] := rfl
  rw [e, str_append, str_append, join_append]
  simp [joinB]
theorem join_len_pcs (ps : List Pc) : (joinB (pcs ps)).length ≤ 2097153 * ps.length := by
  have := join_len'' (pcs ps) 2097152 (fun n hn => by obtain ⟨x, _, rfl⟩ := List.mem_map.1 hn; exact x.2)
  rwa [pcs_length] at this

set_option maxRecDepth 100000 in
set_option maxHeartbeats 2000000 in
theorem implAboveOf_any (s : ByteArray) (w : World) (hs : s.size ≤ 2097152) :
    Calls Tryz.prog 126 #[.string s] w fun e w' => ∃ a c, e = .returned (.agg #[.int .i64 (faultP s.data.toList), .slice a (above s.data.toList).length c]) ∧ OwnS w.heap.size w' (.slice a (above s.data.toList).length c) (above s.data.toList) ∧ Below w.heap.size w w' := by
  obtain ⟨i1, ki, kz0, kz1, kz2⟩ := info_parts infoS
  refine (callsIn_wide (n := 4)).1 ?_
  refine callsIn_of_wp_marks Tryz.func126 rfl trivial ?_ rfl
  simp only [Tryz.ntmps126, List.size_toArray, List.length_cons, List.length_nil, Nat.reduceAdd, Nat.reduceSub, Array.replicate_succ, Array.replicate_zero, List.push_toArray, List.append_toArray, List.nil_append, List.cons_append]
  gi_wp2_with fail
  refine ⟨trivial, ?_⟩
  refine (callsIn_wide.2 (implPathFault_any s _ hs)).mono ?_
  rintro e w1 ⟨rfl, hb1⟩
  have X0 := hide ((Box.new w (.int .i64 0) (.slice none 0 0) 147).below hb1)
  have n1 : w.heap.size < w1.heap.size := by have := hb1.size; simp at this; omega
  have HB := hide (below_next (below_alloc w _) hb1)
  clear hb1
  by_cases hf : faultP s.data.toList = 0
  · have h1 := faultP_pos hf
    have HA := hide (above_good hf)
    have HF := hide hf
    have h1' : (1 : Int) ≤ (s.size : Int) := by omega
    have HT := hide (tail_data s)
    have hel := extract_le s 1 s.size
    rw [hf]
    clear hf
    gi_wp2_with fail
    refine ⟨trivial, ?_⟩
    refine (callsIn_wide.2 (piecesOf_in _ _)).mono ?_
    rintro e w2 ⟨rfl, rfl⟩
    gi_wp2_with fail
    have HXE := hide (show s.extract 1 s.size = str s.data.toList.tail by rw [← HT.out, str_of])
    have hrl : s.data.toList.tail.length ≤ 2097152 := by rw [List.length_tail, ← Lib.size_eq]; omega
    have hcl := cutB_length s.data.toList.tail
    have bA := Boxed.new w1 59 (.slice none 0 0)
    have bP := Boxed.new (w1.alloc (.cells #[.slice none 0 0] 59)) 9 (.string ⟨#[]⟩)
    have bT := Boxed.new ((w1.alloc (.cells #[.slice none 0 0] 59)).alloc (.cells #[.string ⟨#[]⟩] 9)) 9 (.string (s.extract 1 s.size))
    simp only [World.size_alloc] at bP bT
    have hB0 : Below w.heap.size w (((w1.alloc (.cells #[.slice none 0 0] 59)).alloc (.cells #[.string ⟨#[]⟩] 9)).alloc (.cells #[.string (s.extract 1 s.size)] 9)) := ((HB.out.alloc (by omega) _).alloc (by simp; omega) _).alloc (by simp; omega) _
    have hX0 := ((X0.out.below (below_alloc w1 (.cells #[.slice none 0 0] 59))).below (below_alloc _ (.cells #[.string ⟨#[]⟩] 9))).below (below_alloc _ (.cells #[.string (s.extract 1 s.size)] 9))
    refine wpIn_rangeFunc_ownF rfl (by decide) (gf := 128) (lb := #[.pointer (some ⟨w1.heap.size + 1 + 1, 0, none⟩)]) rfl trivial (enters_of Tryz.func128 (by kernel_rfl) rfl)
      (pieces_stops _ (w1.heap.size + 1 + 1) w.heap.size s.data.toList.tail hrl _ (by simp) (by rw [← HXE.out]; exact bT.cell)) belowK_t (belowK_b (by simp; omega)) (Below.refl _ _) (fun _ => rfl)
      (fun (pre : List Pc) W => ((∃ v, Boxed W w1.heap.size 59 v ∧ OwnS (w1.heap.size + 3) W v (aboveN (pcs pre))) ∧ Boxed W (w1.heap.size + 1) 9 (.string (str (joinB (pcs pre)))) ∧ Box W w.heap.size (.int .i64 0) (.slice none 0 0) ∧ w1.heap.size + 3 ≤ W.heap.size) ∧ Below w.heap.size w W)
      (fun c (pre : List Pc) W => False)
      (OwnFrom.and (OwnFrom.and (Own.from (ownS_own _ _ _ (fun pre => aboveN (pcs pre))) _) (OwnFrom.and (Own.from (boxed_own _ _ (fun pre => .string (str (joinB (pcs pre))))) _) (OwnFrom.and (Own.from (box_own _ _ _) _) (fun _ _ _ _ hs hg _ => Nat.le_trans hs hg.size)))) (ownFrom_below (Nat.le_refl _) (by simp; omega)))
      (fun c => ownFrom_pure _ _)
      ⟨⟨⟨_, (bA.alloc _).alloc _, OwnS.nil _ _⟩, bP.alloc _, hX0, by simp⟩, hB0⟩
      (fun x => { tmps := #[.string s, undef, .pointer (some ⟨w.heap.size, 0, none⟩), .int .i64 0, .pointer (some ⟨w1.heap.size, 0, none⟩), .pointer (some ⟨w1.heap.size + 1, 0, none⟩), .string (str x.1), .string s, .int .i64 0, .int .i64 0, .bool false, undef, undef, .string s, .string (s.extract 1 s.size), .func (.func 128) #[] #[.pointer (some ⟨w1.heap.size + 1 + 1, 0, none⟩)], .string (str x.1), undef, undef, undef, undef, undef, undef, undef, undef, undef, undef, undef, undef], defers := [] }) ?assign ?body ?done ?stop
    case assign =>
      intro l x W K hK
      gi_wp2_with fail
      exact hK
    case body =>
      rintro l pre ⟨x, hx⟩ W ⟨⟨⟨v, hv, hO⟩, hP, hX, hsz⟩, hB⟩ hlt
      obtain ⟨va, vc, rfl⟩ := hO.shape
      have hjl := join_len_pcs pre
      have hpl : pre.length ≤ 2097152 := by omega
      have HJS := hide (join_snoc (pcs pre) x)
      generalize hj : joinB (pcs pre) = j at *
      have HJ := hide hj
      clear hj
      have hz1 : ¬ 9223372036854775807 < 1 + (str x).size := by rw [str_size]; omega
      have hz2 : ¬ 9223372036854775807 < (str j).size + (1 + (str x).size) := by rw [str_size, str_size]; omega
      have hv0 := hv.cell
      have hv1 := hv.frozen
      have hP0 := hP.cell
      have hP1 := hP.frozen
      have HX := hide hX
      have HB' := hide hB
      have HO := hide hO
      have HV := hide hv
      have HP := hide hP
      clear hX hB hO hv hP
      by_cases h0 : pre = []
      · subst h0
        have he : (str j).toList.isEmpty = true := by rw [← HJ.out, ByteArray.toList_eq, str_data]; rfl
        gi_wp2_with fail
        have KS := hide (Kept.setCell (S := fun b => b = w1.heap.size + 1) (p := ⟨w1.heap.size + 1, 0, none⟩) (Kept.refl _ W) (fun _ => rfl) (.string (str j ++ ((⟨#[47]⟩ : ByteArray) ++ str x))))
        exact ⟨KeepsOthers.setCell _ _ _, (Below.refl w.heap.size W).setCell (p := ⟨w1.heap.size + 1, 0, none⟩) (by simp; omega) _, ⟨⟨_, HV.out.other (by omega) _, HO.out.kept KS.out (fun b hb e => by have := (HO.out.lt b hb).1; omega)⟩, by rw [pcs_snoc, ← HJS.out]; exact HP.out.set _, HX.out.kept KS.out (by omega), by have := KS.out.size; omega⟩, HB'.out.setCell (p := ⟨w1.heap.size + 1, 0, none⟩) (by simp; omega) _⟩
      · have he : (str j).toList.isEmpty = false := by
          rw [← HJ.out, ByteArray.toList_eq, str_data]
          cases pre with
          | nil => exact absurd rfl h0
          | cons p pre => rfl
        have HAS := hide (show aboveN (pcs (pre ++ [⟨x, hx⟩])) = aboveN (pcs pre) ++ [j] by rw [pcs_snoc, aboveN_snoc _ _ (by intro e; apply h0; exact List.map_eq_nil_iff.1 e), HJ.out])
        have hal : (aboveN (pcs pre)).length ≤ 2097152 := by rw [aboveN_length, pcs_length]; omega
        generalize aboveN (pcs pre) = ab at *
        have hm1 : ab.length + 1 ≤ maxLen := by unfold maxLen; omega
        have hm2 : (ab.length + 1) * 16 ≤ 140737488355328 := by omega
        gi_wp2_with (gi_at_builtin; refine wpListIn_append_one rfl (.tmp 19) (.tmp 21) 59 rfl (w1.heap.size + 3) 9 i1 (.string ⟨#[]⟩) 1 16 Tryz.underlying59 ki kz0 kz1 kz2 rfl (by decide) _ _ _ rfl HO.out rfl rfl (by intro u hu; simp at hu; subst hu; rfl) hm1 hm2 hsz ?_; intro v' w2 hown2 hkept hko; obtain ⟨g', cap', rfl⟩ := ownsRow_succ hown2; have O2 := hide (OwnS.snoc hown2 rfl); have K2 := hide hkept; have KO := hide hko; clear hown2 hkept hko; have HV2 := hide (boxed_kept HV.out K2.out (fun hS => by have := (HO.out.lt _ hS).1; omega)); have HP2 := hide (boxed_kept HP.out K2.out (fun hS => by have := (HO.out.lt _ hS).1; omega)); have hv2 := HV2.out.cell; have hv3 := HV2.out.frozen; have HP3 := hide (HP2.out.other (B' := w1.heap.size) (by omega) (.slice (some ⟨g', 0, none⟩) (ab.length + 1) cap')); have hP2 := HP3.out.cell; have hP3 := HP3.out.frozen)
        have KS := hide (Kept.setCell (S := fun b => b = w1.heap.size ∨ b = w1.heap.size + 1) (p := ⟨w1.heap.size + 1, 0, none⟩) (Kept.setCell (S := fun b => b = w1.heap.size ∨ b = w1.heap.size + 1) (p := ⟨w1.heap.size, 0, none⟩) (Kept.refl _ w2) (fun _ => .inl rfl) (.slice (some ⟨g', 0, none⟩) (ab.length + 1) cap')) (fun _ => .inr rfl) (.string (str j ++ ((⟨#[47]⟩ : ByteArray) ++ str x))))
        have hBK := K2.out.below (B := w.heap.size) (by have := HB'.out.size; omega) (fun k hk hS => by have := (HO.out.lt _ hS).1; omega)
        have hBS := KS.out.below (B := w.heap.size) (by have := K2.out.size; omega) (fun k hk hS => by omega)
        exact ⟨KO.out.trans ((KeepsOthers.setCell _ _ _).trans (KeepsOthers.setCell _ _ _)), hBK.trans hBS, ⟨⟨_, (HV2.out.set _).other (by omega) _, by rw [HAS.out]; exact O2.out.kept KS.out (fun b hb e => by have := (O2.out.lt b hb).1; omega)⟩, by rw [pcs_snoc, ← HJS.out]; exact HP3.out.set _, (HX.out.kept K2.out (fun hS => by have := (HO.out.lt _ hS).1; omega)).kept KS.out (by omega), by have := K2.out.size; have := KS.out.size; omega⟩, (HB'.out.trans hBK).trans hBS⟩
    case done =>
      rintro D ys W hD hys ⟨⟨⟨v, hv, hO⟩, hP, hX, hsz⟩, hB⟩ hK
      rw [hys, ← HA.out] at hO
      obtain ⟨va, vc, rfl⟩ := hO.shape
      have hv0 := hv.cell
      have HX := hide hX
      have HB' := hide hB
      have HK := hide hK
      have HO := hide hO
      clear hX hB hK hO hys hv hP
      obtain ⟨⟨q0, q1⟩, q2, q3⟩ := HX.out
      gi_wp2_with fail
      obtain ⟨k1, k2, k3⟩ := end_box HX.out.1 HK.out (.int .i64 0) (.slice va (above s.data.toList).length vc)
      refine ⟨by simp, .inl ⟨_, _, rfl, run_takeDeferred k1, ?_⟩⟩
      refine ⟨.agg #[.int .i64 0, .slice va (above s.data.toList).length vc], by simp [results, Tryz.results126, go_sem, k2, k3], va, vc, by rw [HF.out], ?_, ?_⟩
      · exact ownsRow_putObj ((HO.out.kept (Kept.two W w.heap.size 0 1 _ _) (fun b hb e => by have := (HO.out.lt b hb).1; omega)).mono (by omega)) _ k1 rfl
      · exact ((HB'.out.setCell (p := ⟨w.heap.size, 0, none⟩) (Nat.le_refl _) _).setCell (p := ⟨w.heap.size, 1, none⟩) (Nat.le_refl _) _).trans (belowK_b (w := w) (Nat.le_refl _) _ D _ _ (by simp at hD; omega) k1 rfl rfl)
    case stop =>
      rintro D c pre W hD hpre hc hK
      exact hc.elim
  · have HA := hide (above_bad hf)
    obtain ⟨⟨q0, q1⟩, q2, q3⟩ := X0.out
    obtain ⟨c, hc⟩ : ∃ c, c = faultP s.data.toList := ⟨_, rfl⟩
    rw [← hc] at hf ⊢
    have HC := hide hc
    clear hc
    have hf2 : (c != 0) = true := by simpa using hf
    gi_wp2_with fail
    have h2 := X0.out.1.set (.int .i64 c) (.slice none 0 0)
    refine ⟨.agg #[.int .i64 c, .slice none 0 0], by simp [results, Tryz.results126, go_sem, h2.1, h2.2], ?_⟩
    rw [HA.out, ← HC.out]
    exact ⟨_, _, rfl, OwnS.nil _ _, (HB.out.setCell (p := ⟨w.heap.size, 0, none⟩) (Nat.le_refl _) _).setCell (p := ⟨w.heap.size, 1, none⟩) (Nat.le_refl _) _⟩

set_option maxRecDepth 100000 in
set_option maxHeartbeats 2000000 in
theorem implParentOf_any (s : ByteArray) (w : World) (hs : s.size ≤ 2097152) :
    Calls Tryz.prog 102 #[.string s] w fun e w' => e = .returned (.agg #[.int .i64 (parC s.data.toList), .string (str (parT s.data.toList))]) ∧ Below w.heap.size w w' := by
  have hlen := above_len s.data.toList
  go_enter Tryz.func102, Tryz.ntmps102
  go_wp2_with fail
  refine (implAboveOf_any s _ hs).mono ?_
  rintro e w1 ⟨va, vc, rfl, hO, hb1⟩
  have X0 := hide ((Box.new w (.int .i64 0) (.string ⟨#[]⟩) 35).below hb1)
  have n1 : w.heap.size < w1.heap.size := by have := hb1.size; simp at this; omega
  have HB := hide (below_next (below_alloc w _) hb1)
  have HO := hide hO
  clear hb1 hO
  by_cases hf : faultP s.data.toList = 0
  · have HF := hide hf
    have HA := hide (above_good hf)
    rw [hf]
    clear hf
    by_cases h0 : above s.data.toList = []
    · have HE := hide (par_none HF.out (by rw [← HA.out]; exact h0))
      rw [h0]
      obtain ⟨⟨q0, q1⟩, q2, q3⟩ := X0.out
      clear h0 hlen
      go_wp2_with fail
      rw [HE.out.1, HE.out.2]
      have h2 := (X0.out.1.set (.int .i64 4) (.string ⟨#[]⟩)).below (below_alloc _ (.cells #[.int .i64 0, .slice va 0 vc] 147))
      exact bodyPost_ret (v := .agg #[.int .i64 4, .string ⟨#[]⟩]) (by simp [results, Tryz.results102, go_sem, h2.1, h2.2]) rfl ⟨rfl, ((HB.out.setCell (p := ⟨w.heap.size, 0, none⟩) (Nat.le_refl _) _).setCell (p := ⟨w.heap.size, 1, none⟩) (Nat.le_refl _) _).alloc (by simp [World.setCell]; omega) _⟩
    · have HE := hide (par_good HF.out (by rw [← HA.out]; exact h0))
      have hp := List.length_pos_iff.2 h0
      obtain ⟨b, off, p, rfl, hb, hpe, hck⟩ := HO.out.reads.at (k := (above s.data.toList).length - 1) (by omega)
      have HP := hide (show (aboveN (cutB s.data.toList.tail)).getLastD [] = p by rw [← HA.out]; exact (Option.some.inj (hpe.symm.trans (getLast_at h0))).symm)
      clear hpe
      generalize (above s.data.toList).length = n at *
      have hz : ((n : Int) == 0) = false := by simp; omega
      have hp' : (1 : Int) ≤ (n : Int) := by omega
      have hp2 : (n : Int) ≤ 2 := by omega
      obtain ⟨⟨q0, q1⟩, q2, q3⟩ := X0.out
      go_wp2_with fail
      rw [HE.out.1, HE.out.2, HP.out]
      have h2 := (X0.out.1.set (.int .i64 0) (.string (str p))).below (below_alloc _ (.cells #[.int .i64 0, .slice (some ⟨b, off, none⟩) n vc] 147))
      exact bodyPost_ret (v := .agg #[.int .i64 0, .string (str p)]) (by simp [results, Tryz.results102, go_sem, h2.1, h2.2]) rfl ⟨rfl, ((HB.out.setCell (p := ⟨w.heap.size, 0, none⟩) (Nat.le_refl _) _).setCell (p := ⟨w.heap.size, 1, none⟩) (Nat.le_refl _) _).alloc (by simp [World.setCell]; omega) _⟩
  · have HE := hide (par_bad hf)
    obtain ⟨⟨q0, q1⟩, q2, q3⟩ := X0.out
    obtain ⟨c, hc⟩ : ∃ c, c = faultP s.data.toList := ⟨_, rfl⟩
    rw [← hc] at hf ⊢
    have HC := hide hc
    clear hc
    have hf2 : (c != 0) = true := by simpa using hf
    go_wp2_with fail
    rw [HE.out.1, HE.out.2, ← HC.out]
    have h2 := (X0.out.1.set (.int .i64 c) (.string ⟨#[]⟩)).below (below_alloc _ (.cells #[.int .i64 c, .slice va (above s.data.toList).length vc] 147))
    exact bodyPost_ret (v := .agg #[.int .i64 c, .string ⟨#[]⟩]) (by simp [results, Tryz.results102, go_sem, h2.1, h2.2]) rfl ⟨rfl, ((HB.out.setCell (p := ⟨w.heap.size, 0, none⟩) (Nat.le_refl _) _).setCell (p := ⟨w.heap.size, 1, none⟩) (Nat.le_refl _) _).alloc (by simp [World.setCell]; omega) _⟩


end Go.Proofs.YtcknabinmbknaaaGreatDoor
