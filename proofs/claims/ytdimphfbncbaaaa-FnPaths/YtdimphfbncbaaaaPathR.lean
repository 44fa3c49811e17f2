/-
  The program's piecesLeft and NormPath.
-/
import Derived.Test.YtdimphfbncbaaaaPathQ
import Derived.Test.YtdimphfbncbaaaaPathN
namespace Go.Proofs.Ytdimphfbncbaaaa
open Go.RowKit Go.Shelf
set_option linter.unusedVariables false
attribute [local go_sem] Oper.semAt_some

theorem left_stopped {ps ns : List Bs} (h : ps <+: ns) (hp : leftOf ps = none) : leftOf ns = none := by
  obtain ⟨q, rfl⟩ := h
  exact left_stop hp

set_option maxRecDepth 100000 in
set_option maxHeartbeats 4000000 in
theorem piecesLeft_any (s : ByteArray) (w : World) (hs : s.size ≤ 40) :
    Calls Try.prog 63 #[.string s] w fun e w' => ∃ v, Below w.heap.size w w' ∧
      ((∃ q, leftOf (cutB s.data.toList) = some q ∧ e = .returned (.tuple #[v, .int .i64 0]) ∧ OwnS w.heap.size w' v q) ∨
       (leftOf (cutB s.data.toList) = none ∧ e = .returned (.tuple #[v, .int .i64 5]))) := by
  obtain ⟨i1, ki, kz0, kz1, kz2⟩ := info_parts infoS
  refine (callsIn_wide (n := 4)).1 ?_
  refine callsIn_of_wp_marks Try.func63 rfl trivial ?_ rfl
  simp only [Try.ntmps63, List.size_toArray, List.length_cons, List.length_nil, Nat.reduceAdd, Nat.reduceSub, Array.replicate_succ, Array.replicate_zero, List.push_toArray, List.append_toArray, List.nil_append, List.cons_append]
  gi_wp2_with fail
  refine wpIn_scope_wide ?_
  gi_wp2_with fail
  refine wpIn_label ?_
  gi_wp2_with fail
  refine ⟨trivial, ?_⟩
  refine (callsIn_wide.2 (piecesOf_in _ _)).mono ?_
  rintro e w2 ⟨rfl, rfl⟩
  gi_wp2_with fail
  have hrl : s.data.toList.length ≤ 2097152 := by rw [← Lib.size_eq]; omega
  have hcl := cutB_length s.data.toList
  have hsl : s.data.toList.length ≤ 40 := by rw [← Lib.size_eq]; omega
  have bL := Boxed.new w 63 (.slice none 0 0)
  have bC := Boxed.new (w.alloc (.cells #[.slice none 0 0] 63)) 2 (.int .i64 0)
  have bT := Boxed.new ((w.alloc (.cells #[.slice none 0 0] 63)).alloc (.cells #[.int .i64 0] 2)) 9 (.string s)
  simp only [World.size_alloc] at bC bT
  have hB0 : Below w.heap.size w (((w.alloc (.cells #[.slice none 0 0] 63)).alloc (.cells #[.int .i64 0] 2)).alloc (.cells #[.string s] 9)) := (((Below.refl _ w).alloc (Nat.le_refl _) _).alloc (by simp) _).alloc (by simp; omega) _
  refine wpIn_rangeFunc_ownF rfl (by decide) (gf := 91) (lb := #[.pointer (some ⟨w.heap.size + 1 + 1, 0, none⟩)]) rfl trivial (enters_of Try.func91 (by kernel_rfl) rfl)
    (pieces_stops _ (w.heap.size + 1 + 1) w.heap.size s.data.toList hrl _ (by simp) (by rw [str_of]; exact bT.cell)) belowK_t (belowK_b (by simp; omega)) (Below.refl _ _) (fun _ => rfl)
    (fun (pre : List Pc) W => (((leftOf (pcs pre)).isSome = true) ∧ (∃ v, Boxed W w.heap.size 63 v ∧ OwnS (w.heap.size + 3) W v ((leftOf (pcs pre)).getD [])) ∧ Boxed W (w.heap.size + 1) 2 (.int .i64 0) ∧ w.heap.size + 3 ≤ W.heap.size) ∧ Below w.heap.size w W)
    (fun c (pre : List Pc) W => (c = .exit 0 ∧ leftOf (pcs pre) = none ∧ (∃ v, Boxed W w.heap.size 63 v ∧ OwnS (w.heap.size + 3) W v []) ∧ Boxed W (w.heap.size + 1) 2 (.int .i64 5)) ∧ Below w.heap.size w W)
    (OwnFrom.and (OwnFrom.and (ownFrom_pure _ _) (OwnFrom.and (Own.from (ownS_own _ _ _ (fun pre => (leftOf (pcs pre)).getD [])) _) (OwnFrom.and (Own.from (boxed_own _ _ (fun _ => .int .i64 0)) _) (fun _ _ _ _ hs hg _ => Nat.le_trans hs hg.size)))) (ownFrom_below (Nat.le_refl _) (by simp; omega)))
    (fun c => OwnFrom.and (OwnFrom.and (ownFrom_pure _ _) (OwnFrom.and (ownFrom_pure _ _) (OwnFrom.and (Own.from (ownS_own _ _ _ (fun _ => [])) _) (Own.from (boxed_own _ _ (fun _ => .int .i64 5)) _)))) (ownFrom_below (Nat.le_refl _) (by simp; omega)))
    ⟨⟨rfl, ⟨_, (bL.alloc _).alloc _, OwnS.nil _ _⟩, bC.alloc _, by simp⟩, hB0⟩
    (fun x => { tmps := #[.string s, undef, .slice none 0 0, .int .i64 0, .pointer (some ⟨w.heap.size, 0, none⟩), .pointer (some ⟨w.heap.size + 1, 0, none⟩), .string (str x.1), .string s, .func (.func 91) #[] #[.pointer (some ⟨w.heap.size + 1 + 1, 0, none⟩)], .string (str x.1), undef, undef, undef, undef, undef, undef, undef, undef, undef, undef, undef, undef, undef, undef, undef, undef, undef, undef, undef, undef], defers := [] }) ?assign ?body ?done ?stop
  case assign =>
    intro l x W K hK
    gi_wp2_with fail
    exact hK
  case body =>
    rintro l pre ⟨x, hx⟩ W ⟨⟨hsome, ⟨v, hv, hO⟩, hC, hsz⟩, hB⟩ hlt
    obtain ⟨q, hq⟩ := Option.isSome_iff_exists.1 hsome
    have hql := leftOf_len hq
    rw [pcs_length] at hql
    rw [hq] at hO
    simp only [Option.getD_some] at hO
    obtain ⟨va, vc, rfl⟩ := hO.shape
    have hv0 := hv.cell
    have hv1 := hv.frozen
    have hC0 := hC.cell
    have hC1 := hC.frozen
    have HLS := hide (show leftOf (pcs (pre ++ [⟨x, hx⟩])) = leftStep (some q) x by rw [pcs_snoc, leftOf_snoc, hq])
    have HB' := hide hB
    have HO := hide hO
    have HV := hide hv
    have HC := hide hC
    clear hB hO hv hC hsome hq
    rcases kinds x with ⟨t0, hst⟩ | ⟨t0, t1, hst⟩ | ⟨t0, t1, t2, hst⟩ | ⟨t0, t1, t2, hst⟩
    · have HST := hide (HLS.out.trans (hst q))
      clear hst
      gi_wp2_with fail
      exact ⟨KeepsOthers.refl _, Below.refl _ _, ⟨by rw [HST.out]; rfl, ⟨_, HV.out, by rw [HST.out]; exact HO.out⟩, HC.out, hsz⟩, HB'.out⟩
    · have HST := hide (HLS.out.trans (hst q))
      clear hst
      gi_wp2_with fail
      exact ⟨KeepsOthers.refl _, Below.refl _ _, ⟨by rw [HST.out]; rfl, ⟨_, HV.out, by rw [HST.out]; exact HO.out⟩, HC.out, hsz⟩, HB'.out⟩
    · have HST := hide (HLS.out.trans (hst q))
      clear hst
      by_cases hq0 : q = []
      · subst hq0
        gi_wp2_with fail
        have KS := hide (Kept.setCell (S := fun b => b = w.heap.size + 1) (p := ⟨w.heap.size + 1, 0, none⟩) (Kept.refl _ W) (fun _ => rfl) (.int .i64 5))
        exact ⟨KeepsOthers.setCell _ _ _, ⟨rfl, HST.out, ⟨_, HV.out.other (by omega) _, HO.out.kept KS.out (fun b hb e => by have := (HO.out.lt b hb).1; omega)⟩, HC.out.set _⟩, HB'.out.setCell (p := ⟨w.heap.size + 1, 0, none⟩) (by simp) _⟩
      · have hq1 : 0 < (q.length : Int) := by have := List.length_pos_iff.2 hq0; omega
        have hq2 : (q.length : Int) ≤ 41 := by omega
        have hq3 : ((q.length : Int) == 0) = false := by simp; omega
        have hvc : (q.length : Int) ≤ vc := by have := HO.out.cap rfl; omega
        gi_wp2_with fail
        have KS := hide (Kept.setCell (S := fun b => b = w.heap.size) (p := ⟨w.heap.size, 0, none⟩) (Kept.refl _ W) (fun _ => rfl) (.slice va (q.length - 1) vc))
        exact ⟨KeepsOthers.setCell _ _ _, (Below.refl w.heap.size W).setCell (p := ⟨w.heap.size, 0, none⟩) (Nat.le_refl _) _, ⟨by rw [HST.out, if_neg hq0]; rfl, ⟨_, HV.out.set _, by rw [HST.out, if_neg hq0]; exact (HO.out.dropLast hq0).kept KS.out (fun b hb e => by have := ((HO.out.dropLast hq0).lt b hb).1; omega)⟩, HC.out.other (by omega) _, by have := KS.out.size; omega⟩, HB'.out.setCell (p := ⟨w.heap.size, 0, none⟩) (Nat.le_refl _) _⟩
    · have HST := hide (HLS.out.trans (hst q))
      clear hst
      have hm1 : q.length + 1 ≤ maxLen := by unfold maxLen; omega
      have hm2 : (q.length + 1) * 16 ≤ 140737488355328 := by omega
      gi_wp2_with (gi_at_builtin; refine wpListIn_append_one rfl (.tmp 11) (.tmp 13) 63 rfl (w.heap.size + 3) 9 i1 (.string ⟨#[]⟩) 1 16 Try.underlying63 ki kz0 kz1 kz2 rfl (by decide) _ _ _ rfl HO.out rfl rfl (by intro u hu; simp at hu; subst hu; rfl) hm1 hm2 hsz ?_; intro v' w2 hown2 hkept hko; obtain ⟨g', cap', rfl⟩ := ownsRow_succ hown2; have O2 := hide (OwnS.snoc hown2 rfl); have K2 := hide hkept; have KO := hide hko; clear hown2 hkept hko; have HV2 := hide (boxed_kept HV.out K2.out (fun hS => by have := (HO.out.lt _ hS).1; omega)); have HC2 := hide (boxed_kept HC.out K2.out (fun hS => by have := (HO.out.lt _ hS).1; omega)); have hv2 := HV2.out.cell; have hv3 := HV2.out.frozen)
      have KS := hide (Kept.setCell (S := fun b => b = w.heap.size) (p := ⟨w.heap.size, 0, none⟩) (Kept.refl _ w2) (fun _ => rfl) (.slice (some ⟨g', 0, none⟩) (q.length + 1) cap'))
      have hBK := K2.out.below (B := w.heap.size) (by omega) (fun k hk hS => by have := (HO.out.lt _ hS).1; omega)
      have hBS := KS.out.below (B := w.heap.size) (by have := K2.out.size; omega) (fun k hk hS => by omega)
      exact ⟨KO.out.trans (KeepsOthers.setCell _ _ _), hBK.trans hBS, ⟨by rw [HST.out]; rfl, ⟨_, HV2.out.set _, by rw [HST.out]; exact O2.out.kept KS.out (fun b hb e => by have := (O2.out.lt b hb).1; omega)⟩, HC2.out.other (by omega) _, by have := K2.out.size; have := KS.out.size; omega⟩, (HB'.out.trans hBK).trans hBS⟩
  case done =>
    rintro D ys W hD hys ⟨⟨hsome, ⟨v, hv, hO⟩, hC, hsz⟩, hB⟩ hK
    obtain ⟨q, hq⟩ := Option.isSome_iff_exists.1 hsome
    rw [hq] at hO
    rw [hys] at hq
    simp only [Option.getD_some] at hO
    obtain ⟨va, vc, rfl⟩ := hO.shape
    have hv0 := hv.cell
    have hC0 := hC.cell
    have HB' := hide hB
    have HO := hide hO
    have HQ := hide hq
    have HK := hide hK
    clear hB hO hv hC hsome hq hys hK
    gi_wp2_with fail
    refine wpIn_wide.2 ?_
    go_region
    gi_wp2_with fail
    have hK2 : W.drew.heap[D]? = some (.deferred (some [])) := HK.out
    refine ⟨by simp, .inl ⟨_, _, rfl, run_takeDeferred hK2, ?_⟩⟩
    refine ⟨_, results_tmp2 rfl _ _ _, .slice va q.length vc, ?_, .inl ⟨q, HQ.out, rfl, ?_⟩⟩
    · exact (HB'.out.drew).trans (belowK_b (w := w) (Nat.le_refl _) _ D _ _ (by simp at hD; omega) hK2 rfl rfl)
    · have hO2 : OwnS w.heap.size W.drew (.slice va q.length vc) q := HO.out.mono (by omega)
      exact ownsRow_putObj hO2 _ hK2 rfl
  case stop =>
    rintro D c pre W hD hpre ⟨⟨rfl, hp, ⟨v, hv, hO⟩, hC⟩, hB⟩ hK
    obtain ⟨va, vc, rfl⟩ := hO.shape
    have hv0 := hv.cell
    have hC0 := hC.cell
    have HB' := hide hB
    have HQ := hide (left_stopped hpre hp)
    have HK := hide hK
    clear hB hO hv hC hp hpre hK
    gi_wp2_with fail
    refine wpIn_wide.2 ?_
    go_region
    gi_wp2_with fail
    have hK2 : W.drew.heap[D]? = some (.deferred (some [])) := HK.out
    refine ⟨by simp, .inl ⟨_, _, rfl, run_takeDeferred hK2, ?_⟩⟩
    refine ⟨_, results_tmp2 rfl _ _ _, .slice va 0 vc, ?_, .inr ⟨HQ.out, rfl⟩⟩
    exact (HB'.out.drew).trans (belowK_b (w := w) (Nat.le_refl _) _ D _ _ (by simp at hD; omega) hK2 rfl rfl)

theorem stroke_join (x : Bs) : (⟨#[47]⟩ : ByteArray) ++ str x = str (47 :: x) := by
  have e : (⟨#[47]⟩ : ByteArray) = str [47] := rfl
  rw [e, str_append]; rfl

set_option maxRecDepth 100000 in
set_option maxHeartbeats 4000000 in
theorem implNormPath_any (s : ByteArray) (w : World) (hs : s.size ≤ 2097152) :
    Calls Try.prog 32 #[.string s] w fun e w' => e = .returned (.agg #[.int .i64 (normC s.data.toList), .string (str (normT s.data.toList))]) ∧ Below w.heap.size w w' := by
  by_cases h : 40 < s.size
  · have h' : (40 : Int) < (s.size : Int) := by omega
    have HE := hide (normC_many (t := s.data.toList) (by rw [← Lib.size_eq]; exact h))
    go_enter Try.func32, Try.ntmps32
    go_wp2_with fail
    rw [HE.out.1, HE.out.2]
    exact bodyPost_ret (v := .agg #[.int .i64 2, .string ⟨#[]⟩]) (by simp [results, Try.results32, go_sem]) rfl ⟨rfl, (Below.refl _ _).alloc (Nat.le_refl _) _⟩
  · have h' : ¬ (40 : Int) < (s.size : Int) := by omega
    have HL := hide (show ¬ 40 < s.data.toList.length by rw [← Lib.size_eq]; exact h)
    go_enter Try.func32, Try.ntmps32
    go_wp2_with fail
    refine (piecesLeft_any s _ (by omega)).mono ?_
    rintro e w1 ⟨v, hb1, hcase⟩
    have X0 := hide ((Box.new w (.int .i64 0) (.string ⟨#[]⟩) 36).below hb1)
    have n1 : w.heap.size < w1.heap.size := by have := hb1.size; simp at this; omega
    have HB := hide (below_next (below_alloc w _) hb1)
    clear hb1
    obtain ⟨⟨q0, q1⟩, q2, q3⟩ := X0.out
    rcases hcase with ⟨q, hq, rfl, hO⟩ | ⟨hq, rfl⟩
    · obtain ⟨va, vc, rfl⟩ := hO.shape
      by_cases hq0 : q = []
      · subst hq0
        have HE := hide (normC_empty HL.out hq)
        clear hq
        go_wp2_with fail
        rw [HE.out.1, HE.out.2]
        exact bodyPost_ret (v := .agg #[.int .i64 4, .string ⟨#[]⟩]) (by simp [results, Try.results32, go_sem, q0, q1]) rfl ⟨rfl, (HB.out.setCell (Nat.le_refl _) _).setCell (Nat.le_refl _) _⟩
      · have hq3 : ((q.length : Int) == 0) = false := by have := List.length_pos_iff.2 hq0; simp; omega
        have hjl : (joinB q).length ≤ 1722 := by
          have hcl := cutB_length s.data.toList
          have hll := leftOf_len hq
          have := HL.out
          have := join_len' q 41 (fun n hn => by have := cutB_each s.data.toList n (leftOf_mem hq n hn); omega)
          have : 42 * q.length ≤ 42 * 41 := Nat.mul_le_mul_left _ (by omega)
          omega
        have hcap := hO.cap rfl
        have HO := hide hO
        have HQ := hide hq
        clear hq hO
        go_wp2_with fail
        refine (joinLib_any va vc q.length q _ HO.out.reads hq0 rfl hcap (by omega)).mono ?_
        rintro e w2 ⟨rfl, hb2⟩
        have HX2 := hide (X0.out.below hb2)
        have HB2 := hide (below_next HB.out hb2)
        have n2 := hb2.size
        clear hb2 q0 q1 q2 q3
        have HJ := hide (show (⟨#[47]⟩ : ByteArray) ++ str (joinB q).tail = str (joinB q) by rw [stroke_join, ← joinB_cons hq0])
        have hz : ¬ 9223372036854775807 < 1 + (str (joinB q).tail).size := by rw [str_size, List.length_tail]; omega
        go_wp2_with fail
        rw [HJ.out]
        refine (implPathFault_any _ _ (by rw [str_size]; omega)).mono ?_
        rintro e w3 ⟨rfl, hb3⟩
        rw [str_data]
        have HX3 := hide (HX2.out.below hb3)
        have HB3 := hide (below_next HB2.out hb3)
        clear hb3
        obtain ⟨⟨q0, q1⟩, q2, q3⟩ := HX3.out
        by_cases hf : faultP (joinB q) = 0
        · have HE := hide (normC_good HL.out HQ.out hq0 hf)
          rw [hf]
          clear hf
          go_wp2_with fail
          rw [HE.out.1, HE.out.2]
          exact bodyPost_ret (v := .agg #[.int .i64 0, .string (str (joinB q))]) (by simp [results, Try.results32, go_sem, q0, q1]) rfl ⟨rfl, (HB3.out.setCell (Nat.le_refl _) _).setCell (Nat.le_refl _) _⟩
        · have HE := hide (normC_bad HL.out HQ.out hq0 hf)
          obtain ⟨c, hc⟩ : ∃ c, c = faultP (joinB q) := ⟨_, rfl⟩
          rw [← hc] at hf ⊢
          have HC := hide hc
          clear hc
          have hf2 : (c != 0) = true := by simpa using hf
          go_wp2_with fail
          rw [HE.out.1, HE.out.2, ← HC.out]
          exact bodyPost_ret (v := .agg #[.int .i64 c, .string ⟨#[]⟩]) (by simp [results, Try.results32, go_sem, q0, q1]) rfl ⟨rfl, (HB3.out.setCell (Nat.le_refl _) _).setCell (Nat.le_refl _) _⟩
    · have HE := hide (normC_none HL.out hq)
      clear hq
      go_wp2_with fail
      rw [HE.out.1, HE.out.2]
      exact bodyPost_ret (v := .agg #[.int .i64 5, .string ⟨#[]⟩]) (by simp [results, Try.results32, go_sem, q0, q1]) rfl ⟨rfl, (HB.out.setCell (Nat.le_refl _) _).setCell (Nat.le_refl _) _⟩

end Go.Proofs.Ytdimphfbncbaaaa
