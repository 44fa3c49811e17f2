/-
  The model's NormPath.
-/
import Derived.Test.YtdimphfbncbaaaaPathS
namespace Go.Proofs.Ytdimphfbncbaaaa
open Go.RowKit
set_option linter.unusedVariables false

theorem str_toList (p : Bs) : (str p).toList = p := by rw [ByteArray.toList_eq, str_data]
theorem join_len' : ∀ (ns : List Bs) (m : Nat), (∀ n ∈ ns, n.length ≤ m) → (joinB ns).length ≤ (m + 1) * ns.length
  | [], _, _ => by simp [joinB]
  | n :: ns, m, h => by
    have := join_len' ns m (fun x hx => h x (by simp [hx]))
    have := h n (by simp)
    simp only [joinB, List.length_cons, List.length_append, Nat.mul_add, Nat.mul_one]; omega
/-- Four kinds of a piece, as the switch asks them. -/
theorem kinds (p : Bs) : ((str p).toList.isEmpty = true ∧ ∀ l, leftStep (some l) p = some l) ∨
    ((str p).toList.isEmpty = false ∧ ((str p).toList == [46]) = true ∧ ∀ l, leftStep (some l) p = some l) ∨
    ((str p).toList.isEmpty = false ∧ ((str p).toList == [46]) = false ∧ ((str p).toList == [46, 46]) = true ∧ ∀ l, leftStep (some l) p = if l = [] then none else some l.dropLast) ∨
    ((str p).toList.isEmpty = false ∧ ((str p).toList == [46]) = false ∧ ((str p).toList == [46, 46]) = false ∧ ∀ l, leftStep (some l) p = some (l ++ [p])) := by
  rw [str_toList]
  by_cases h0 : p = []
  · subst h0; exact .inl ⟨rfl, fun l => by simp [leftStep]⟩
  · have e0 : p.isEmpty = false := by simpa using h0
    by_cases h1 : p = [46]
    · subst h1; exact .inr (.inl ⟨rfl, rfl, fun l => by simp [leftStep]⟩)
    · have e1 : (p == [46]) = false := by simpa using h1
      by_cases h2 : p = [46, 46]
      · subst h2; exact .inr (.inr (.inl ⟨rfl, rfl, rfl, fun l => by simp [leftStep]⟩))
      · have e2 : (p == [46, 46]) = false := by simpa using h2
        exact .inr (.inr (.inr ⟨e0, e1, e2, fun l => by simp [leftStep, h0, h1, h2]⟩))

set_option maxRecDepth 100000 in
set_option maxHeartbeats 1600000 in
theorem specNormPath_many (s : ByteArray) (w : World) (h : 40 < s.size) (hs : s.size ≤ 2097152) :
    Calls Try.prog 33 #[.string s] w fun e w' => e = .returned (.agg #[.int .i64 2, .string ⟨#[]⟩]) ∧ Below w.heap.size w w' := by
  have h' : (40 : Int) < (s.size : Int) := by omega
  go_enter Try.func33, Try.ntmps33
  go_wp2
  exact bodyPost_ret (v := .agg #[.int .i64 2, .string ⟨#[]⟩]) (by simp [results, Try.results33, go_sem]) rfl ⟨rfl, (Below.refl _ _).alloc (Nat.le_refl _) _⟩

set_option maxRecDepth 100000 in
set_option maxHeartbeats 3200000 in
theorem specNormPath_few (s : ByteArray) (w : World) (h : ¬ 40 < s.size) :
    Calls Try.prog 33 #[.string s] w fun e w' => e = .returned (.agg #[.int .i64 (normC s.data.toList), .string (str (normT s.data.toList))]) ∧ Below w.heap.size w w' := by
  obtain ⟨i1, ki, kz0, kz1, kz2⟩ := info_parts infoS
  have h' : ¬ (40 : Int) < (s.size : Int) := by omega
  have hcl := cutB_length s.data.toList
  rw [← Lib.size_eq] at hcl
  have HEa := hide (cutB_each s.data.toList)
  have HSL := hide (Lib.size_eq s)
  generalize hps : cutB s.data.toList = ps at *
  have HPS := hide hps
  clear hps
  go_enter Try.func33, Try.ntmps33
  go_wp2_with fail
  refine (l3Cut_any _ _ (by omega)).mono ?_
  rintro e w1 ⟨v, rfl, hO, hb1⟩
  rw [HPS.out] at hO
  obtain ⟨pa, pc, rfl⟩ := hO.shape
  have X0 := hide ((Box.new w (.int .i64 0) (.string ⟨#[]⟩) 36).below hb1)
  have n1 : w.heap.size < w1.heap.size := by have := hb1.size; simp at this; omega
  have HB := hide (below_next (below_alloc w _) hb1)
  have HR := hide hO.reads
  have HPB := hide (fun b (hb : pa.map Addr.block = some b) => hO.lt b (by cases pa with | none => simp at hb | some x => simpa [Value.ownBlock] using hb))
  clear hO hb1
  go_wp2_with fail
  go_loopw [4, 5] (fun v i wr => ∃ (k : Nat) (q : List Bs), k ≤ ps.length ∧ q.length ≤ k ∧ i = .int .i64 k ∧ Hid (leftOf (ps.take k) = some q) ∧ Hid (OwnS w1.heap.size wr v q) ∧ Hid (ReadsS wr pa ps) ∧ Hid (Box wr w.heap.size (.int .i64 0) (.string ⟨#[]⟩)) ∧ Hid (Below w.heap.size w wr) ∧ w1.heap.size ≤ wr.heap.size) (fun _ i _ => ps.length - (intOf i).toNat)
  case atStart => exact ⟨0, [], Nat.zero_le _, Nat.le_refl _, rfl, hide rfl, hide (World.ownsRow_made (base := w1.heap.size) (e := 9) (size := 1) w1 #[] 0 (Nat.le_refl _) (Nat.zero_le _) rfl), hide (HR.out.below (below_alloc _ _)), hide (X0.out.below (below_alloc _ _)), hide (below_next HB.out (below_alloc _ _)), by simp⟩
  case round =>
    obtain ⟨k, q, hk, hq, rfl, HL, HO, HRr, HX, HBr, hszr⟩ := hrel
    obtain ⟨va, vc, rfl⟩ := HO.out.shape
    obtain ⟨⟨q0, q1⟩, q2, q3⟩ := HX.out
    by_cases hlt : k < ps.length
    · obtain ⟨b, off, p, rfl, hb, hp, hck⟩ := HRr.out.at hlt
      have HP := hide hp
      have HLS := hide (show leftOf (ps.take (k + 1)) = leftStep (some q) p by rw [take_snoc_at hp, leftOf_snoc, HL.out])
      clear hp
      rcases kinds p with ⟨t0, hst⟩ | ⟨t0, t1, hst⟩ | ⟨t0, t1, t2, hst⟩ | ⟨t0, t1, t2, hst⟩
      · have HST := hide (HLS.out.trans (hst q))
        clear hst
        go_wp2_with fail
        go_roundw
        case rel => exact ⟨k + 1, q, by omega, by omega, by go_num, HST, HO, HRr, HX, HBr, hszr⟩
        case measure => simp [intOf]; omega
      · have HST := hide (HLS.out.trans (hst q))
        clear hst
        go_wp2_with fail
        go_roundw
        case rel => exact ⟨k + 1, q, by omega, by omega, by go_num, HST, HO, HRr, HX, HBr, hszr⟩
        case measure => simp [intOf]; omega
      · have HST := hide (HLS.out.trans (hst q))
        clear hst
        by_cases hq0 : q = []
        · have HNo := hide (show leftOf ps = none by rw [← List.take_append_drop (k + 1) ps]; exact left_stop (by rw [HST.out, if_pos hq0]))
          subst hq0
          go_wp2_with fail
          obtain ⟨e1, e2⟩ := normC_none (t := s.data.toList) (by rw [← HSL.out]; exact h) (by rw [HPS.out]; exact HNo.out)
          rw [e1, e2]
          exact bodyPost_ret (v := .agg #[.int .i64 5, .string ⟨#[]⟩]) (by simp [results, Try.results33, go_sem, q0, q1]) rfl ⟨rfl, (HBr.out.setCell (Nat.le_refl _) _).setCell (Nat.le_refl _) _⟩
        · have hq1 : 0 < (q.length : Int) := by have := List.length_pos_iff.2 hq0; omega
          have hq2 : (q.length : Int) ≤ 41 := by omega
          have hq3 : ((q.length : Int) == 0) = false := by simp; omega
          have hvc : (q.length : Int) ≤ vc := by have := HO.out.cap rfl; omega
          go_wp2_with fail
          go_roundw
          case rel => exact ⟨k + 1, q.dropLast, by omega, by simp; omega, by go_num, hide (by rw [HST.out, if_neg hq0]), hide (HO.out.dropLast hq0), HRr, HX, HBr, hszr⟩
          case measure => simp [intOf]; omega
      · have HST := hide (HLS.out.trans (hst q))
        clear hst
        have hm1 : q.length + 1 ≤ maxLen := by unfold maxLen; omega
        have hm2 : (q.length + 1) * 16 ≤ 140737488355328 := by omega
        go_wp2_with (at_builtin; refine wpList_append_one rfl (.tmp 25) (.tmp 30) 63 rfl w1.heap.size 9 i1 (.string ⟨#[]⟩) 1 16 Try.underlying63 ki kz0 kz1 kz2 rfl (by decide) _ _ _ rfl HO.out rfl rfl (by intro u hu; simp at hu; subst hu; rfl) hm1 hm2 hszr ?_; intro v' w2 hown2 hkept; have O2 := hide hown2; have K2 := hide hkept; clear hown2 hkept)
        go_roundw
        case rel => exact ⟨k + 1, q ++ [p], by omega, by simp; omega, by go_num, HST, hide (OwnS.snoc O2.out rfl), hide (HRr.out.kept K2.out (fun _ x hx hS => by have h1 := (HPB.out x.block (by rw [hx]; rfl)).2; have h2 := (HO.out.lt _ hS).1; omega)), hide (HX.out.kept K2.out (fun hS => by have := (HO.out.lt _ hS).1; omega)), hide (HBr.out.trans (K2.out.below (by omega) (fun b hb hS => by have := (HO.out.lt _ hS).1; omega))), by have := K2.out.size; omega⟩
        case measure => simp [intOf]; omega
    · have HLe := hide (show leftOf ps = some q by rw [← HL.out, List.take_of_length_le (by omega)])
      by_cases hq0 : q = []
      · subst hq0
        go_wp2_with fail
        obtain ⟨e1, e2⟩ := normC_empty (t := s.data.toList) (by rw [← HSL.out]; exact h) (by rw [HPS.out]; exact HLe.out)
        rw [e1, e2]
        exact bodyPost_ret (v := .agg #[.int .i64 4, .string ⟨#[]⟩]) (by simp [results, Try.results33, go_sem, q0, q1]) rfl ⟨rfl, (HBr.out.setCell (Nat.le_refl _) _).setCell (Nat.le_refl _) _⟩
      · have hq3 : ((q.length : Int) == 0) = false := by have := List.length_pos_iff.2 hq0; simp; omega
        have hjl : (joinB q).length ≤ 1722 := by
          have := join_len' q 41 (fun n hn => by have := HEa.out n (leftOf_mem HLe.out n hn); have := HSL.out; omega)
          have : 42 * q.length ≤ 42 * 41 := Nat.mul_le_mul_left _ (by omega)
          omega
        have nB := HBr.out.size
        go_wp2_with fail
        refine (l3Join_any _ _ q _ HO.out.reads (by omega) (by omega) _ rfl).mono ?_
        rintro e w' ⟨rfl, rfl⟩
        go_wp2_with fail
        refine (l3Fault_any _ _ (by rw [str_size]; omega)).mono ?_
        rintro e w3 ⟨rfl, hb3⟩
        rw [str_data]
        have HX3 := hide (HX.out.below hb3)
        have HB3 := hide (below_next HBr.out hb3)
        clear q0 q1 q2 q3 hb3
        obtain ⟨⟨q0, q1⟩, q2, q3⟩ := HX3.out
        by_cases hf : faultP (joinB q) = 0
        · have HE := hide (normC_good (t := s.data.toList) (by rw [← HSL.out]; exact h) (by rw [HPS.out]; exact HLe.out) hq0 hf)
          rw [hf]
          clear hf
          go_wp2_with fail
          rw [HE.out.1, HE.out.2]
          exact bodyPost_ret (v := .agg #[.int .i64 0, .string (str (joinB q))]) (by simp [results, Try.results33, go_sem, q0, q1]) rfl ⟨rfl, (HB3.out.setCell (Nat.le_refl _) _).setCell (Nat.le_refl _) _⟩
        · have HE := hide (normC_bad (t := s.data.toList) (by rw [← HSL.out]; exact h) (by rw [HPS.out]; exact HLe.out) hq0 hf)
          generalize faultP (joinB q) = c at *
          have hf2 : (c != 0) = true := by simpa using hf
          go_wp2_with fail
          rw [HE.out.1, HE.out.2]
          exact bodyPost_ret (v := .agg #[.int .i64 c, .string ⟨#[]⟩]) (by simp [results, Try.results33, go_sem, q0, q1]) rfl ⟨rfl, (HB3.out.setCell (Nat.le_refl _) _).setCell (Nat.le_refl _) _⟩

theorem specNormPath_any (s : ByteArray) (w : World) (hs : s.size ≤ 2097152) :
    Calls Try.prog 33 #[.string s] w fun e w' => e = .returned (.agg #[.int .i64 (normC s.data.toList), .string (str (normT s.data.toList))]) ∧ Below w.heap.size w w' := by
  by_cases h : 40 < s.size
  · obtain ⟨e1, e2⟩ := normC_many (t := s.data.toList) (by rw [← Lib.size_eq]; exact h)
    rw [e1, e2]
    exact specNormPath_many s w h hs
  · exact specNormPath_few s w h

end Go.Proofs.Ytdimphfbncbaaaa
