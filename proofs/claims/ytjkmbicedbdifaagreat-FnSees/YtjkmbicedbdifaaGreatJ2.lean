/-
  Texts put together: PathP IteA LayQ PathQ IteB EntA EntW EntP IteC IteD IteE EntQ LayR LayG Digest Parts IntsR Digests EntI TreL.
-/
import Derived.Test.YtjkmbicedbdifaaGreatJ1
import Derived.Scope
namespace Go.Proofs.YtjkmbicedbdifaaGreat
open Go.RowKit Go.Shelf
set_option linter.unusedVariables false
attribute [local go_sem] Oper.semAt_some

theorem wpIn_scope_wide {n : Nat} {P : Program} {c : Code} {Q : Exit → Act → World → Prop} {a : Act} {w : World} (h : c.wpIn Fence.wide n P (Exit.noGoto Q) a w) : (Code.scope c).wpIn Fence.wide n P Q a w :=
  wpIn_wide.2 (wp_scope_straight (wpIn_wide.1 h))

theorem faultP_not {l : Bs} (h : ∀ r, l ≠ 47 :: r) : faultP l = 5 := by
  cases l with
  | nil => rfl
  | cons c r =>
    have hc : c ≠ 47 := fun e => h r (by rw [e])
    simp [faultP, hc]
theorem stroke_cases (l : Bs) : (∃ r, l = 47 :: r) ∨ ∀ r, l ≠ 47 :: r := by
  by_cases h : ∃ r, l = 47 :: r
  · exact .inl h
  · exact .inr fun r e => h ⟨r, e⟩

/-- The code of plain pieces so far. -/
def cd (ps : List Bs) : Int := if ps.all (fun n => decide (n.length ≤ 4)) && decide (ps.length ≤ 3) then 0 else 2
theorem cd_nil : cd [] = 0 := rfl
theorem cd_bad (ps : List Bs) (x : Bs) (h : 4 < x.length ∨ 3 < ps.length + 1) : cd (ps ++ [x]) = 2 := by
  have : ((ps ++ [x]).all (fun n => decide (n.length ≤ 4)) && decide ((ps ++ [x]).length ≤ 3)) = false := by
    rw [Bool.and_eq_false_iff]
    rcases h with h | h
    · left; simp; intro _; omega
    · right; simp; omega
  simp only [cd, this]; rfl
theorem cd_good (ps : List Bs) (x : Bs) (h : ¬ 4 < x.length) (h2 : ¬ 3 < ps.length + 1) : cd (ps ++ [x]) = cd ps := by
  have e1 : decide (x.length ≤ 4) = true := by simp; omega
  have e2 : decide ((ps ++ [x]).length ≤ 3) = true := by simp; omega
  have e3 : decide (ps.length ≤ 3) = true := by simp; omega
  simp only [cd, List.all_append, List.all_cons, List.all_nil, e1, e2, e3, Bool.and_true]
theorem cd_fault {ns : List Bs} (h : ns.all plain = true) : faultN ns = cd ns := by simp only [faultN, h, if_true, cd]
theorem fault_of_prefix {ns ps : List Bs} (h : ps <+: ns) (hp : ps.all plain = false) : faultN ns = 5 := by
  obtain ⟨q, rfl⟩ := h
  simp [faultN, hp]

set_option maxRecDepth 100000 in
set_option maxHeartbeats 2000000 in
theorem implPathFault_no (s : ByteArray) (w : World) (h : ∀ r, s.data.toList ≠ 47 :: r) :
    Calls Tryz.prog 75 #[.string s] w fun e w' => e = .returned (.int .i64 5) ∧ Below w.heap.size w w' := by
  refine (callsIn_wide (n := 4)).1 ?_
  refine callsIn_of_wp_marks Tryz.func75 rfl trivial ?_ rfl
  simp only [Tryz.ntmps75, List.size_toArray, List.length_cons, List.length_nil, Nat.reduceAdd, Nat.reduceSub, Array.replicate_succ, Array.replicate_zero, List.push_toArray, List.append_toArray, List.nil_append, List.cons_append]
  gi_wp2_with fail
  refine wpIn_scope_wide ?_
  gi_wp2_with fail
  refine ⟨trivial, ?_⟩
  refine (callsIn_wide.2 (cutPrefix_no s _ h)).mono ?_
  rintro e w' ⟨⟨x, rfl⟩, rfl⟩
  gi_wp2_with fail
  exact ⟨_, results_tmp rfl _ _ _, rfl, Below.refl _ _⟩

set_option maxRecDepth 100000 in
set_option maxHeartbeats 2000000 in
theorem implPathFault_yes (s : ByteArray) (r : Bs) (w : World) (h : s.data.toList = 47 :: r) (hs : s.size ≤ 2097152) :
    Calls Tryz.prog 75 #[.string s] w fun e w' => e = .returned (.int .i64 (faultN (cutB r))) ∧ Below w.heap.size w w' := by
  refine (callsIn_wide (n := 4)).1 ?_
  refine callsIn_of_wp_marks Tryz.func75 rfl trivial ?_ rfl
  simp only [Tryz.ntmps75, List.size_toArray, List.length_cons, List.length_nil, Nat.reduceAdd, Nat.reduceSub, Array.replicate_succ, Array.replicate_zero, List.push_toArray, List.append_toArray, List.nil_append, List.cons_append]
  gi_wp2_with fail
  refine wpIn_scope_wide ?_
  gi_wp2_with fail
  refine ⟨trivial, ?_⟩
  refine (callsIn_wide.2 (cutPrefix_yes s r _ h)).mono ?_
  rintro e w' ⟨rfl, rfl⟩
  gi_wp2_with fail
  refine wpIn_label ?_
  gi_wp2_with fail
  refine ⟨trivial, ?_⟩
  refine (callsIn_wide.2 (piecesOf_in _ _)).mono ?_
  rintro e w1 ⟨rfl, rfl⟩
  gi_wp2_with fail
  have hrl : r.length ≤ 2097152 := by have := congrArg List.length h; rw [← Lib.size_eq] at this; simp at this; omega
  have hcl := cutB_length r
  have bC := Boxed.new w' 2 (.int .i64 0)
  have bN := Boxed.new (w'.alloc (.cells #[.int .i64 0] 2)) 3 (.int .i64 0)
  have bT := Boxed.new ((w'.alloc (.cells #[.int .i64 0] 2)).alloc (.cells #[.int .i64 0] 3)) 9 (.string (str r))
  simp only [World.size_alloc] at bN bT
  have hB0 : Below w'.heap.size w' (((w'.alloc (.cells #[.int .i64 0] 2)).alloc (.cells #[.int .i64 0] 3)).alloc (.cells #[.string (str r)] 9)) := (((Below.refl _ w').alloc (Nat.le_refl _) _).alloc (by simp) _).alloc (by simp; omega) _
  refine wpIn_rangeFunc_ownF rfl (by decide) (gf := 123) (lb := #[.pointer (some ⟨w'.heap.size + 1 + 1, 0, none⟩)]) rfl trivial (enters_of Tryz.func123 (by kernel_rfl) rfl)
    (pieces_stops _ (w'.heap.size + 1 + 1) w'.heap.size r hrl _ (by simp) bT.cell) belowK_t (belowK_b (by simp; omega)) (Below.refl _ _) (fun _ => rfl)
    (fun (pre : List Pc) W => (Boxed W w'.heap.size 2 (.int .i64 (cd (pcs pre))) ∧ Boxed W (w'.heap.size + 1) 3 (.int .i64 pre.length) ∧ (pcs pre).all plain = true) ∧ Below w'.heap.size w' W)
    (fun c (pre : List Pc) W => (c = .exit 0 ∧ (pcs pre).all plain = false ∧ Boxed W w'.heap.size 2 (.int .i64 5)) ∧ Below w'.heap.size w' W)
    (OwnFrom.and (OwnFrom.and (Own.from (boxed_own _ _ (fun pre => .int .i64 (cd (pcs pre)))) _) (OwnFrom.and (Own.from (boxed_own _ _ (fun (pre : List Pc) => .int .i64 pre.length)) _) (ownFrom_pure _ _))) (ownFrom_below (Nat.le_refl _) (by simp; omega)))
    (fun c => OwnFrom.and (OwnFrom.and (ownFrom_pure _ _) (OwnFrom.and (ownFrom_pure _ _) (Own.from (boxed_own _ _ (fun _ => .int .i64 5)) _))) (ownFrom_below (Nat.le_refl _) (by simp; omega)))
    ⟨⟨(bC.alloc _).alloc _, bN.alloc _, rfl⟩, hB0⟩
    (fun x => { tmps := #[.string s, undef, .int .i64 0, .string (str r), .bool true, .pointer (some ⟨w'.heap.size, 0, none⟩), .pointer (some ⟨w'.heap.size + 1, 0, none⟩), .string (str x.1), .tuple #[.string (str r), .bool true], .string s, .tuple #[.string (str r), .bool true], .string (str r), .bool true, .bool true, .bool false, .string (str r), .func (.func 123) #[] #[.pointer (some ⟨w'.heap.size + 1 + 1, 0, none⟩)], .string (str x.1), undef, undef, undef, undef, undef, undef, undef, undef, undef, undef, undef, undef, undef, undef, undef], defers := [] }) ?assign ?body ?done ?stop
  case assign =>
    intro l x W K hK
    gi_wp2_with fail
    exact hK
  case body =>
    rintro l pre ⟨x, hx⟩ W ⟨⟨hc, hn, hp⟩, hB⟩ hlt
    have hc0 := hc.cell
    have hf0 := hc.frozen
    have hn0 := hn.cell
    have hnf := hn.frozen
    have hpl : (pre.length : Int) ≤ 4194304 := by omega
    have HP := hide hp
    have HB := hide hB
    have HC := hide (hc.other (B' := w'.heap.size + 1) (by omega) (.int .i64 (pre.length + 1)))
    have HN := hide (hn.set (.int .i64 (pre.length + 1)))
    clear hp hB hc hn
    have hn1 := HN.out.cell
    have hc1 := HC.out.cell
    have hf1 := HC.out.frozen
    gi_wp2_with fail
    refine ⟨trivial, ?_⟩
    refine (CallsIn.inRound l (callsIn_wide.2 (isLetters_any _ _ (by rw [str_size]; omega)))).mono ?_
    rintro e w2 ⟨rfl, rfl⟩
    rw [str_data]
    cases hpx : plain x
    · have HX := hide hpx
      clear hpx
      gi_wp2_with fail
      exact ⟨(KeepsOthers.setCell _ _ _).trans (KeepsOthers.setCell _ _ _), ⟨rfl, by rw [pcs_snoc]; simp [HX.out], HC.out.set _⟩, (HB.out.setCell (p := ⟨w'.heap.size + 1, 0, none⟩) (by simp) _).setCell (p := ⟨w'.heap.size, 0, none⟩) (Nat.le_refl _) _⟩
    · have HX := hide hpx
      clear hpx
      have HPn := hide (show (pcs (pre ++ [⟨x, hx⟩])).all plain = true by rw [pcs_snoc]; simp [HP.out, HX.out])
      by_cases h4 : 4 < x.length
      · have h4' : (4 : Int) < ((str x).size : Int) := by rw [str_size]; omega
        have HE := hide (cd_bad (pcs pre) x (.inl h4))
        gi_wp2_with fail
        exact ⟨(KeepsOthers.setCell _ _ _).trans (KeepsOthers.setCell _ _ _), ((Below.refl w'.heap.size W).setCell (p := ⟨w'.heap.size + 1, 0, none⟩) (by simp) _).setCell (p := ⟨w'.heap.size, 0, none⟩) (Nat.le_refl _) _, ⟨by rw [pcs_snoc, HE.out]; exact HC.out.set _, by simpa using HN.out.other (by omega) _, HPn.out⟩, (HB.out.setCell (p := ⟨w'.heap.size + 1, 0, none⟩) (by simp) _).setCell (p := ⟨w'.heap.size, 0, none⟩) (Nat.le_refl _) _⟩
      · have h4' : ¬ (4 : Int) < ((str x).size : Int) := by rw [str_size]; omega
        by_cases h3 : 3 < pre.length + 1
        · have h3' : (3 : Int) < (pre.length : Int) + 1 := by omega
          have HE := hide (cd_bad (pcs pre) x (.inr (by rw [pcs_length]; exact h3)))
          gi_wp2_with fail
          exact ⟨(KeepsOthers.setCell _ _ _).trans (KeepsOthers.setCell _ _ _), ((Below.refl w'.heap.size W).setCell (p := ⟨w'.heap.size + 1, 0, none⟩) (by simp) _).setCell (p := ⟨w'.heap.size, 0, none⟩) (Nat.le_refl _) _, ⟨by rw [pcs_snoc, HE.out]; exact HC.out.set _, by simpa using HN.out.other (by omega) _, HPn.out⟩, (HB.out.setCell (p := ⟨w'.heap.size + 1, 0, none⟩) (by simp) _).setCell (p := ⟨w'.heap.size, 0, none⟩) (Nat.le_refl _) _⟩
        · have h3' : ¬ (3 : Int) < (pre.length : Int) + 1 := by omega
          have HE := hide (cd_good (pcs pre) x h4 (by rw [pcs_length]; exact h3))
          gi_wp2_with fail
          exact ⟨KeepsOthers.setCell _ _ _, (Below.refl w'.heap.size W).setCell (p := ⟨w'.heap.size + 1, 0, none⟩) (by simp) _, ⟨by rw [pcs_snoc, HE.out]; exact HC.out, by simpa using HN.out, HPn.out⟩, HB.out.setCell (p := ⟨w'.heap.size + 1, 0, none⟩) (by simp) _⟩
  case done =>
    rintro D ys W hD hys ⟨⟨hc, hn, hp⟩, hB⟩ hK
    have hc0 := hc.cell
    have HE := hide (show faultN (cutB r) = cd (pcs ys) by rw [← hys]; exact cd_fault hp)
    clear hp hys
    gi_wp2_with fail
    refine ⟨by simp, .inl ⟨_, _, rfl, run_takeDeferred hK, ?_⟩⟩
    exact ⟨_, results_tmp rfl _ _ _, by rw [HE.out]; rfl, hB.trans (belowK_b (w := w') (Nat.le_refl _) W D _ _ (by simp at hD; omega) hK rfl rfl)⟩
  case stop =>
    rintro D c pre W hD hpre ⟨⟨rfl, hp, hc⟩, hB⟩ hK
    have hc0 := hc.cell
    have HE := hide (fault_of_prefix hpre hp)
    clear hp hpre
    gi_wp2_with fail
    refine ⟨by simp, .inl ⟨_, _, rfl, run_takeDeferred hK, ?_⟩⟩
    exact ⟨_, results_tmp rfl _ _ _, by rw [HE.out]; rfl, hB.trans (belowK_b (w := w') (Nat.le_refl _) W D _ _ (by simp at hD; omega) hK rfl rfl)⟩

theorem implPathFault_any (s : ByteArray) (w : World) (hs : s.size ≤ 2097152) :
    Calls Tryz.prog 75 #[.string s] w fun e w' => e = .returned (.int .i64 (faultP s.data.toList)) ∧ Below w.heap.size w w' := by
  rcases stroke_cases s.data.toList with ⟨r, h⟩ | h
  · have e : faultP s.data.toList = faultN (cutB r) := by rw [h]; simp [faultP]
    rw [e]
    exact implPathFault_yes s r w h hs
  · rw [faultP_not h]
    exact implPathFault_no s w h

theorem box_own {β : Type} (b : Nat) (u v : Value) : Go.Own (fun (_ : β) W => Box W b u v) := fun s A B row hs hg hr =>
  ⟨⟨cell_kept hs.1.1 hg hr, cell_kept hs.1.2 hg hr⟩, (frozen_kept hs.1.1 hg hr).trans hs.2.1, (frozen_kept hs.1.2 hg hr).trans hs.2.2⟩
theorem Two.set {W : World} {b : Nat} {u v : Value} (h : Two W b u v) (u' v' : Value) : Two ((W.setCell ⟨b, 0, none⟩ u').setCell ⟨b, 1, none⟩ v') b u' v' := by
  have h1 : (W.setCell ⟨b, 0, none⟩ u').cell? ⟨b, 0, none⟩ = some u' := cell_set_same h.1
  have h2 : (W.setCell ⟨b, 0, none⟩ u').cell? ⟨b, 1, none⟩ = some v := (cell_set_other (by simp)).trans h.2
  exact ⟨(cell_set_other (by simp)).trans h1, cell_set_same h2⟩
/-- The end of a function whose result lies in a box of two cells and that held a loop over a function. -/
theorem end_box {W : World} {b D : Nat} {u v : Value} (h : Two W b u v) (hK : W.heap[D]? = some (.deferred (some []))) (u' v' : Value) :
    ((W.setCell ⟨b, 0, none⟩ u').setCell ⟨b, 1, none⟩ v').heap[D]? = some (.deferred (some [])) ∧
    (((W.setCell ⟨b, 0, none⟩ u').setCell ⟨b, 1, none⟩ v').putObj D (.deferred none)).cell? ⟨b, 0, none⟩ = some u' ∧
    (((W.setCell ⟨b, 0, none⟩ u').setCell ⟨b, 1, none⟩ v').putObj D (.deferred none)).cell? ⟨b, 1, none⟩ = some v' := by
  have hK2 := ((KeepsOthers.setCell W ⟨b, 0, none⟩ u').trans (KeepsOthers.setCell _ ⟨b, 1, none⟩ v')).same D _ hK rfl
  have h2 := h.set u' v'
  exact ⟨hK2, cell_kept h2.1 (grownBy_putObj' _ D (.deferred none)) (fun r e => by cases e; exact ⟨_, hK2, rfl⟩), cell_kept h2.2 (grownBy_putObj' _ D (.deferred none)) (fun r e => by cases e; exact ⟨_, hK2, rfl⟩)⟩

theorem lastN_snoc (ps : List Bs) (x : Bs) : lastN (ps ++ [x]) = x := by simp [lastN]

set_option maxRecDepth 100000 in
set_option maxHeartbeats 2000000 in
theorem implLastOf_any (s : ByteArray) (w : World) (hs : s.size ≤ 2097152) :
    Calls Tryz.prog 51 #[.string s] w fun e w' => e = .returned (.agg #[.int .i64 (faultP s.data.toList), .string (str (lastT s.data.toList))]) ∧ Below w.heap.size w w' := by
  refine (callsIn_wide (n := 4)).1 ?_
  refine callsIn_of_wp_marks Tryz.func51 rfl trivial ?_ rfl
  simp only [Tryz.ntmps51, List.size_toArray, List.length_cons, List.length_nil, Nat.reduceAdd, Nat.reduceSub, Array.replicate_succ, Array.replicate_zero, List.push_toArray, List.append_toArray, List.nil_append, List.cons_append]
  gi_wp2_with fail
  refine ⟨trivial, ?_⟩
  refine (callsIn_wide.2 (implPathFault_any s _ hs)).mono ?_
  rintro e w1 ⟨rfl, hb1⟩
  have X0 := hide ((Box.new w (.int .i64 0) (.string ⟨#[]⟩) 89).below hb1)
  have n1 : w.heap.size < w1.heap.size := by have := hb1.size; simp at this; omega
  have HB := hide (below_next (below_alloc w _) hb1)
  clear hb1
  by_cases hf : faultP s.data.toList = 0
  · have h1 := faultP_pos hf
    have HE := hide (last_good hf)
    have HF := hide hf
    have h1' : (1 : Int) ≤ (s.size : Int) := by omega
    have HT := hide (tail_data s)
    have hel := extract_le s 1 s.size
    rw [hf]
    clear hf
    gi_wp2_with fail
    refine ⟨trivial, ?_⟩
    refine (callsIn_wide.2 (piecesOf_in _ _)).mono ?_
    rintro e w2 ⟨rfl, rfl⟩
    gi_wp2_with fail
    have HXE := hide (show s.extract 1 s.size = str s.data.toList.tail by rw [← HT.out, str_of])
    have hrl : s.data.toList.tail.length ≤ 2097152 := by rw [List.length_tail, ← Lib.size_eq]; omega
    have hce := cutB_each s.data.toList.tail
    have bL := Boxed.new w1 9 (.string ⟨#[]⟩)
    have bT := Boxed.new (w1.alloc (.cells #[.string ⟨#[]⟩] 9)) 9 (.string (s.extract 1 s.size))
    simp only [World.size_alloc] at bT
    have hB0 : Below w.heap.size w ((w1.alloc (.cells #[.string ⟨#[]⟩] 9)).alloc (.cells #[.string (s.extract 1 s.size)] 9)) := (HB.out.alloc (by omega) _).alloc (by simp; omega) _
    have hX0 := (X0.out.below (below_alloc w1 (.cells #[.string ⟨#[]⟩] 9))).below (below_alloc _ (.cells #[.string (s.extract 1 s.size)] 9))
    refine wpIn_rangeFunc_ownF rfl (by decide) (gf := 123) (lb := #[.pointer (some ⟨w1.heap.size + 1, 0, none⟩)]) rfl trivial (enters_of Tryz.func123 (by kernel_rfl) rfl)
      (pieces_stops _ (w1.heap.size + 1) w.heap.size s.data.toList.tail hrl _ (by simp) (by rw [← HXE.out]; exact bT.cell)) belowK_t (belowK_b (by simp; omega)) (Below.refl _ _) (fun _ => rfl)
      (fun (pre : List Pc) W => (Boxed W w1.heap.size 9 (.string (str (lastN (pcs pre)))) ∧ Box W w.heap.size (.int .i64 0) (.string ⟨#[]⟩)) ∧ Below w.heap.size w W)
      (fun c (pre : List Pc) W => False)
      (OwnFrom.and (OwnFrom.and (Own.from (boxed_own _ _ (fun pre => .string (str (lastN (pcs pre))))) _) (Own.from (box_own _ _ _) _)) (ownFrom_below (Nat.le_refl _) (by simp; omega)))
      (fun c => ownFrom_pure _ _)
      ⟨⟨bL.alloc _, hX0⟩, hB0⟩
      (fun x => { tmps := #[.string s, undef, .pointer (some ⟨w.heap.size, 0, none⟩), .int .i64 0, .pointer (some ⟨w1.heap.size, 0, none⟩), .string (str x.1), .string s, .int .i64 0, .int .i64 0, .bool false, undef, undef, .string s, .string (s.extract 1 s.size), .func (.func 123) #[] #[.pointer (some ⟨w1.heap.size + 1, 0, none⟩)], .string (str x.1), undef, undef, undef, undef], defers := [] }) ?assign ?body ?done ?stop
    case assign =>
      intro l x W K hK
      gi_wp2_with fail
      exact hK
    case body =>
      rintro l pre ⟨x, hx⟩ W ⟨⟨hl, hX⟩, hB⟩ hlt
      have hl0 := hl.cell
      have hl1 := hl.frozen
      have HX := hide hX
      have HB' := hide hB
      have HL := hide hl
      clear hX hB hl
      gi_wp2_with fail
      exact ⟨KeepsOthers.setCell _ _ _, (Below.refl w.heap.size W).setCell (p := ⟨w1.heap.size, 0, none⟩) (by simp; omega) _, ⟨by rw [pcs_snoc, lastN_snoc]; exact HL.out.set _, HX.out.kept (Kept.setCell (S := fun b => b = w1.heap.size) (p := ⟨w1.heap.size, 0, none⟩) (Kept.refl _ W) (fun _ => rfl) _) (by omega)⟩, HB'.out.setCell (p := ⟨w1.heap.size, 0, none⟩) (by simp; omega) _⟩
    case done =>
      rintro D ys W hD hys ⟨⟨hl, hX⟩, hB⟩ hK
      rw [hys] at hl
      have hl0 := hl.cell
      have hll : (lastN (cutB s.data.toList.tail)).length ≤ 2097152 := by
        have := hce (lastN (cutB s.data.toList.tail)) (List.mem_of_getElem? (getLast_at (cutB_ne _)))
        omega
      rw [← HE.out] at hl0 hll
      have HX := hide hX
      have HB' := hide hB
      have HK := hide hK
      clear hX hB hl hK hys
      gi_wp2_with fail
      refine ⟨trivial, ?_⟩
      refine (callsIn_wide.2 (clone_str _ _ (by rw [str_size]; omega))).mono ?_
      rintro e w3 ⟨rfl, hb3⟩
      have HX3 := hide (HX.out.below hb3)
      have HK3 := hide ((hb3.block D (Array.getElem?_eq_some_iff.1 HK.out).1).trans HK.out)
      have HB3 := hide (below_next HB'.out hb3)
      clear hb3
      obtain ⟨⟨q0, q1⟩, q2, q3⟩ := HX3.out
      gi_wp2_with fail
      obtain ⟨k1, k2, k3⟩ := end_box HX3.out.1 HK3.out (.int .i64 0) (.string (str (lastT s.data.toList)))
      refine ⟨by simp, .inl ⟨_, _, rfl, run_takeDeferred k1, ?_⟩⟩
      refine ⟨.agg #[.int .i64 0, .string (str (lastT s.data.toList))], by simp [results, Tryz.results51, go_sem, k2, k3], by rw [HF.out], ?_⟩
      exact ((HB3.out.setCell (p := ⟨w.heap.size, 0, none⟩) (Nat.le_refl _) _).setCell (p := ⟨w.heap.size, 1, none⟩) (Nat.le_refl _) _).trans (belowK_b (w := w) (Nat.le_refl _) _ D _ _ (by simp at hD; omega) k1 rfl rfl)
    case stop =>
      rintro D c pre W hD hpre hc hK
      exact hc.elim
  · have HE := hide (last_bad hf)
    obtain ⟨⟨q0, q1⟩, q2, q3⟩ := X0.out
    obtain ⟨c, hc⟩ : ∃ c, c = faultP s.data.toList := ⟨_, rfl⟩
    rw [← hc] at hf ⊢
    have HC := hide hc
    clear hc
    have hf2 : (c != 0) = true := by simpa using hf
    gi_wp2_with fail
    have h2 := X0.out.1.set (.int .i64 c) (.string ⟨#[]⟩)
    refine ⟨.agg #[.int .i64 c, .string ⟨#[]⟩], by simp [results, Tryz.results51, go_sem, h2.1, h2.2], by rw [HE.out, ← HC.out]; rfl, (HB.out.setCell (p := ⟨w.heap.size, 0, none⟩) (Nat.le_refl _) _).setCell (p := ⟨w.heap.size, 1, none⟩) (Nat.le_refl _) _⟩

end Go.Proofs.YtjkmbicedbdifaaGreat

namespace Go.Proofs.YtjkmbicedbdifaaGreat
open Go.RowKit
set_option linter.unusedVariables false

theorem implDig_any (n : Int) (w : World) : Calls Tryz.prog 166 #[.int .i64 n] w fun e w' => e = .returned (.bool (isDig n)) ∧ w' = w := by
  by_cases h0 : 0 ≤ n
  · by_cases h1 : n ≤ 4294967295
    · have e : isDig n = true := decide_eq_true ⟨h0, h1⟩
      rw [e]
      go_enter Tryz.func166, Tryz.ntmps166
      go_wp2
      go_ret
      exact ⟨rfl, rfl⟩
    · have e : isDig n = false := decide_eq_false (fun h => h1 h.2)
      rw [e]
      go_enter Tryz.func166, Tryz.ntmps166
      go_wp2
      go_ret
      exact ⟨rfl, rfl⟩
  · have e : isDig n = false := decide_eq_false (fun h => h0 h.1)
    rw [e]
    go_enter Tryz.func166, Tryz.ntmps166
    go_wp2
    go_ret
    exact ⟨rfl, rfl⟩

set_option maxHeartbeats 400000 in
theorem itemOf_any (p : ByteArray) (k z : Int) (a : Option Addr) (n c : Nat) (w : World) :
    Calls Tryz.prog 41 #[.agg #[.string p, .int .i64 k, .int .i64 z, .slice a n c]] w fun r w' => r = .returned (.agg #[.int .i64 z, .slice a n c, .string p, .int .i64 k]) ∧ Below w.heap.size w w' := by
  go_enter Tryz.func41, Tryz.ntmps41
  go_wp2
  refine bodyPost_ret (v := .agg #[.int .i64 z, .slice a n c, .string p, .int .i64 k]) (by simp [results, Tryz.results41, go_sem]) rfl ⟨rfl, ?_⟩
  exact below_next (below_alloc _ _) (below_alloc _ _)

set_option maxHeartbeats 400000 in
theorem isKind_any (p : ByteArray) (k z : Int) (a : Option Addr) (n c : Nat) (w : World) :
    Calls Tryz.prog 144 #[.agg #[.int .i64 z, .slice a n c, .string p, .int .i64 k]] w fun r w' => r = .returned (.bool (decide (1 ≤ k ∧ k ≤ 4))) ∧ Below w.heap.size w w' := by
  by_cases h0 : 1 ≤ k
  · by_cases h1 : k ≤ 4
    · have e : decide (1 ≤ k ∧ k ≤ 4) = true := decide_eq_true ⟨h0, h1⟩
      rw [e]
      go_enter Tryz.func144, Tryz.ntmps144
      go_wp2
      go_ret
      exact ⟨rfl, below_alloc _ _⟩
    · have e : decide (1 ≤ k ∧ k ≤ 4) = false := decide_eq_false (fun h => h1 h.2)
      rw [e]
      go_enter Tryz.func144, Tryz.ntmps144
      go_wp2
      go_ret
      exact ⟨rfl, below_alloc _ _⟩
  · have e : decide (1 ≤ k ∧ k ≤ 4) = false := decide_eq_false (fun h => h0 h.1)
    rw [e]
    go_enter Tryz.func144, Tryz.ntmps144
    go_wp2
    go_ret
    exact ⟨rfl, below_alloc _ _⟩

set_option maxHeartbeats 400000 in
theorem isDir_any (p : ByteArray) (k z : Int) (a : Option Addr) (n c : Nat) (w : World) :
    Calls Tryz.prog 78 #[.agg #[.int .i64 z, .slice a n c, .string p, .int .i64 k]] w fun r w' => r = .returned (.bool (dirK k)) ∧ Below w.heap.size w w' := by
  by_cases h0 : k = 2
  · have e : dirK k = true := decide_eq_true (.inl h0)
    have hb : (k == 2) = true := by simp [h0]
    rw [e]
    clear e h0
    go_enter Tryz.func78, Tryz.ntmps78
    go_wp2
    go_ret
    exact ⟨rfl, below_alloc _ _⟩
  · have hb : (k == 2) = false := by simp [h0]
    by_cases h1 : k = 4
    · have e : dirK k = true := decide_eq_true (.inr h1)
      have hb1 : (k == 4) = true := by simp [h1]
      rw [e]
      clear e h0 h1
      go_enter Tryz.func78, Tryz.ntmps78
      go_wp2
      go_ret
      exact ⟨rfl, below_alloc _ _⟩
    · have e : dirK k = false := decide_eq_false (fun h => h.elim h0 h1)
      have hb1 : (k == 4) = false := by simp [h1]
      rw [e]
      clear e h0 h1
      go_enter Tryz.func78, Tryz.ntmps78
      go_wp2
      go_ret
      exact ⟨rfl, below_alloc _ _⟩

set_option maxHeartbeats 400000 in
theorem hasBytes_any (z : Int) (a : Option Addr) (n c : Nat) (w : World) :
    Calls Tryz.prog 145 #[.agg #[.int .i64 z, .slice a n c]] w fun r w' => r = .returned (.bool (decide (z ≠ 0 ∨ n ≠ 0))) ∧ Below w.heap.size w w' := by
  by_cases h0 : z = 0
  · have hb : (z != 0) = false := by simp [h0]
    by_cases h1 : n = 0
    · have e : decide (z ≠ 0 ∨ n ≠ 0) = false := decide_eq_false (fun h => h.elim (fun h => h h0) (fun h => h h1))
      have hb1 : ((n : Int) != 0) = false := by simp [h1]
      rw [e]
      clear e h0 h1
      go_enter Tryz.func145, Tryz.ntmps145
      go_wp2
      go_ret
      exact ⟨rfl, below_alloc _ _⟩
    · have e : decide (z ≠ 0 ∨ n ≠ 0) = true := decide_eq_true (.inr h1)
      have hb1 : ((n : Int) != 0) = true := by simp; omega
      rw [e]
      clear e h0 h1
      go_enter Tryz.func145, Tryz.ntmps145
      go_wp2
      go_ret
      exact ⟨rfl, below_alloc _ _⟩
  · have e : decide (z ≠ 0 ∨ n ≠ 0) = true := decide_eq_true (.inl h0)
    have hb : (z != 0) = true := by simp [h0]
    rw [e]
    clear e h0
    go_enter Tryz.func145, Tryz.ntmps145
    go_wp2
    go_ret
    exact ⟨rfl, below_alloc _ _⟩

/-- The fault of an entry's Size and Chunks. -/
def bytesF (z : Int) (zs : List Int) : Int := if 0 ≤ z ∧ z ≤ 24 then (if (zs.length : Int) = (z + 7) / 8 then (if zs.all isDig then 0 else 3) else 1) else 3
theorem entFault_bytes {e : En} (h : faultP e.path = 0) (h1 : formE e = true) : entFault e = bytesF e.size e.chunks := by
  simp [entFault, h, h1, bytesF, sizeE, manyE]

set_option maxHeartbeats 800000 in
theorem bytesFault_any (z : Int) (x : Option Addr) (c : Nat) (zs : List Int) (w : World) (h : Reads .i64 w x zs) (hc : zs.length ≤ 1048576) :
    Calls Tryz.prog 146 #[.agg #[.int .i64 z, .slice x zs.length c]] w fun r w' => r = .returned (.int .i64 (bytesF z zs)) ∧ Below w.heap.size w w' := by
  have HR := hide h
  clear h
  by_cases h0 : 0 ≤ z
  · have h0' : ¬ z < 0 := by omega
    by_cases h1 : z ≤ 24
    · have h1' : ¬ 24 < z := by omega
      have ed : (z + 7) / 8 = (z + 8 - 1) / 8 := by congr 1; omega
      by_cases hm : (zs.length : Int) = (z + 7) / 8
      · have HE := hide (show bytesF z zs = if zs.all isDig then 0 else 3 from by simp [bytesF, h0, h1, hm])
        have hmn : ((zs.length : Int) != (z + 8 - 1) / 8) = false := by rw [← ed]; simp; exact hm
        clear hm ed
        have HR1 := hide (HR.out.below (below_alloc w (.cells #[.int .i64 z, .slice x zs.length c] 62)))
        go_enter Tryz.func146, Tryz.ntmps146
        go_wp2_with fail
        have HB := hide (below_alloc w (.cells #[.int .i64 z, .slice x zs.length c] 62))
        generalize w.alloc (.cells #[.int .i64 z, .slice x zs.length c] 62) = W at *
        go_loop [25] (fun i => ∃ k : Nat, k ≤ zs.length ∧ i = .int .i64 k ∧ Hid ((zs.take k).all isDig = true)) (fun i => zs.length - (intOf i).toNat)
        case atStart => exact ⟨0, Nat.zero_le _, rfl, hide (by simp)⟩
        case round =>
          obtain ⟨k, hk, rfl, HA⟩ := hrel
          by_cases hlt : k < zs.length
          · obtain ⟨b, off, rfl, hb1, hcc⟩ := HR1.out (by intro e; simp [e] at hlt)
            have hc1 := hcc k hlt
            have hzk : zs[k]? = some (zs.getD k 0) := by rw [List.getD_eq_getElem?_getD, List.getElem?_eq_getElem hlt]; rfl
            generalize zs.getD k 0 = y at hc1 hzk
            have HZ := hide hzk
            clear hcc hzk
            cases hd : isDig y
            · have HX := hide (show zs.all isDig = false from by rw [List.all_eq_false]; exact ⟨y, List.mem_of_getElem? HZ.out, by simp [hd]⟩)
              have HD := hide hd
              clear hd
              go_wp2_with fail
              refine (implDig_any _ _).mono ?_
              rintro r w'' ⟨rfl, rfl⟩
              rw [HD.out]
              go_wp2_with fail
              go_ret
              exact ⟨ret_int (by rw [HE.out, HX.out]; rfl), HB.out⟩
            · have HX := hide (show (zs.take (k + 1)).all isDig = true from by rw [take_snoc_at HZ.out]; simp [HA.out, hd])
              have HD := hide hd
              clear hd
              go_wp2_with fail
              refine (implDig_any _ _).mono ?_
              rintro r w'' ⟨rfl, rfl⟩
              rw [HD.out]
              go_wp2_with fail
              go_round
              case rel => exact ⟨k + 1, by omega, by go_num, HX⟩
              case measure => simp [intOf]; omega
          · have HX := hide (show zs.all isDig = true from by have := HA.out; rwa [List.take_of_length_le (by omega)] at this)
            go_wp2_with fail
            go_ret
            exact ⟨ret_int (by rw [HE.out, HX.out]; rfl), HB.out⟩
      · have HE := hide (show bytesF z zs = 1 from by simp [bytesF, h0, h1, hm])
        have hmn : ((zs.length : Int) != (z + 8 - 1) / 8) = true := by rw [← ed]; simp; exact hm
        clear hm ed
        go_enter Tryz.func146, Tryz.ntmps146
        go_wp2_with fail
        go_ret
        exact ⟨ret_int HE.out.symm, below_alloc _ _⟩
    · have h1' : 24 < z := by omega
      have HE := hide (show bytesF z zs = 3 from by simp [bytesF, h1])
      clear h1
      go_enter Tryz.func146, Tryz.ntmps146
      go_wp2_with fail
      go_ret
      exact ⟨ret_int HE.out.symm, below_alloc _ _⟩
  · have h0' : z < 0 := by omega
    have HE := hide (show bytesF z zs = 3 from by simp [bytesF, h0])
    clear h0
    go_enter Tryz.func146, Tryz.ntmps146
    go_wp2_with fail
    go_ret
    exact ⟨ret_int HE.out.symm, below_alloc _ _⟩

set_option maxRecDepth 100000 in
set_option maxHeartbeats 1600000 in
theorem implEntryFault_any (e : En) (x : Option Addr) (c n : Nat) (w : World) (h : Reads .i64 w x e.chunks) (hn : n = e.chunks.length) (hp : e.path.length ≤ 1048576) (hc : e.chunks.length ≤ 1048576) :
    Calls Tryz.prog 111 #[.agg #[.string (str e.path), .int .i64 e.kind, .int .i64 e.size, .slice x n c]] w fun r w' => r = .returned (.int .i64 (entFault e)) ∧ Below w.heap.size w w' := by
  subst hn
  have HR := hide h
  clear h
  have HN := hide (below_alloc w (.cells #[.string (str e.path), .int .i64 e.kind, .int .i64 e.size, .slice x e.chunks.length c] 40))
  have HB := hide (Four.new w (.string (str e.path)) (.int .i64 e.kind) (.int .i64 e.size) (.slice x e.chunks.length c) 40)
  by_cases hf : faultP e.path = 0
  · go_enter Tryz.func111, Tryz.ntmps111
    go_wp2_with fail
    refine (implPathFault_any _ _ (by rw [str_size]; omega)).mono ?_
    rintro r w1 ⟨rfl, hb1⟩
    rw [str_data, hf]
    have HB1 := hide (below_next HN.out hb1)
    have hB := HB.out.below hb1
    clear HB HN hb1
    obtain ⟨c0, c1, c2, c3⟩ := hB
    generalize w.heap.size = bk at c0 c1 c2 c3 ⊢
    go_wp2_with fail
    refine (itemOf_any _ _ _ _ _ _ _).mono ?_
    rintro r w2 ⟨rfl, hb2⟩
    have HB2 := hide (below_next HB1.out hb2)
    clear HB1 hb2 c0 c1 c2 c3
    go_wp2_with fail
    have F2 := hide (Four.new w2 (.int .i64 e.size) (.slice x e.chunks.length c) (.string (str e.path)) (.int .i64 e.kind) 64)
    have HB3 := hide (below_next HB2.out (below_alloc w2 (.cells #[.int .i64 e.size, .slice x e.chunks.length c, .string (str e.path), .int .i64 e.kind] 64)))
    generalize w2.alloc (.cells #[.int .i64 e.size, .slice x e.chunks.length c, .string (str e.path), .int .i64 e.kind] 64) = W3 at *
    generalize w2.heap.size = b2 at *
    refine (isKind_any _ _ _ _ _ _ _).mono ?_
    rintro r w4 ⟨rfl, hb4⟩
    have F4 := F2.out.below hb4
    have HB4 := hide (below_next HB3.out hb4)
    clear hb4 HB3 HB2 F2
    obtain ⟨f0, f1, f2, f3⟩ := F4
    by_cases hk : 1 ≤ e.kind ∧ e.kind ≤ 4
    · rw [decide_eq_true hk]
      by_cases hk1 : e.kind = 1
      · have HE := hide (entFault_bytes hf (decide_eq_true ⟨hk, Or.inl hk1⟩))
        have hkn : (e.kind != 1) = false := by simp [hk1]
        clear hk hk1 hf
        have HR4 := hide (HR.out.below HB4.out)
        go_wp2_with fail
        refine (bytesFault_any _ _ _ _ _ HR4.out hc).mono ?_
        rintro r w5 ⟨rfl, hb5⟩
        have HB5 := hide (below_next HB4.out hb5)
        clear hb5
        go_wp2_with fail
        go_ret
        exact ⟨ret_int HE.out.symm, HB5.out⟩
      · have hkn : (e.kind != 1) = true := by simp [hk1]
        have HK1 := hide hk1
        have HK := hide hk
        clear hk1 hk
        go_wp2_with fail
        refine (hasBytes_any _ _ _ _ _).mono ?_
        rintro r w5 ⟨rfl, hb5⟩
        have HB5 := hide (below_next HB4.out hb5)
        have g0 := (hb5.cell (p := ⟨b2, 0, none⟩) (World.block_lt_of_cell? _ _ f0)).trans f0
        have g1 := (hb5.cell (p := ⟨b2, 1, none⟩) (World.block_lt_of_cell? _ _ f1)).trans f1
        clear hb5 f0 f1 f2 f3
        by_cases hz : e.size ≠ 0 ∨ e.chunks.length ≠ 0
        · rw [decide_eq_true hz]
          have HE := hide (entFault_form hf (decide_eq_false (fun h => h.2.elim HK1.out (fun h => hz.elim (fun q => q h.1) (fun q => q h.2)))))
          clear hz hf
          go_wp2_with fail
          go_ret
          exact ⟨ret_int HE.out.symm, HB5.out⟩
        · rw [decide_eq_false hz]
          have HE := hide (entFault_bytes hf (decide_eq_true ⟨HK.out, Or.inr (by omega)⟩))
          clear hz hf
          have HR5 := hide (HR.out.below HB5.out)
          go_wp2_with fail
          refine (bytesFault_any _ _ _ _ _ HR5.out hc).mono ?_
          rintro r w6 ⟨rfl, hb6⟩
          have HB6 := hide (below_next HB5.out hb6)
          clear hb6
          go_wp2_with fail
          go_ret
          exact ⟨ret_int HE.out.symm, HB6.out⟩
    · rw [decide_eq_false hk]
      have HE := hide (entFault_form hf (decide_eq_false (fun h => hk h.1)))
      clear hk hf
      go_wp2_with fail
      go_ret
      exact ⟨ret_int HE.out.symm, HB4.out⟩
  · rw [entFault_path hf]
    go_enter Tryz.func111, Tryz.ntmps111
    go_wp2_with fail
    refine (implPathFault_any _ _ (by rw [str_size]; omega)).mono ?_
    rintro r w1 ⟨rfl, hb1⟩
    rw [str_data]
    have HB1 := hide (below_next HN.out hb1)
    clear hb1 HN HB HR
    go_wp2_with fail
    go_ret
    exact ⟨rfl, HB1.out⟩

end Go.Proofs.YtjkmbicedbdifaaGreat

namespace Go.Proofs.YtjkmbicedbdifaaGreat
set_option linter.unusedVariables false

/-- Is a path's parent among the entries, as a directory? -/
def hasDir (es : List En) (q : Bs) : Bool := es.any fun x => decide (x.path = q) && dirK x.kind
def homeP (es : List En) (p : Bs) : Bool := if parentP p = [] then true else hasDir es (parentP p)
def entBadH (home : Bs → Bool) (prev : Option En) (e : En) : Int := if entFault e = 0 then (if lowE prev e then 1 else if home e.path then 0 else 9) else entFault e
def layFromH (home : Bs → Bool) : Option En → List En → Int
  | _, [] => 0
  | prev, e :: r => if entBadH home prev e = 0 then layFromH home (some e) r else entBadH home prev e
/-- What the program's LayerFault answers. -/
def layFaultP (es : List En) : Int := if 12 < es.length then 2 else layFromH (homeP es) none es
theorem layFrom_H (es : List En) : ∀ (l : List En) (prev : Option En), layFrom es prev l = layFromH (homeE es) prev l
  | [], _ => rfl
  | e :: r, prev => by
    simp only [layFrom, layFromH]
    have : entBad es prev e = entBadH (homeE es) prev e := rfl
    rw [this, layFrom_H es r (some e)]
theorem layFaultP_many {es : List En} (h : 12 < es.length) : layFaultP es = 2 := by simp [layFaultP, h]
theorem layFaultP_few {es : List En} (h : ¬ 12 < es.length) : layFaultP es = layFromH (homeP es) (prevE es 0) (es.drop 0) := by simp [layFaultP, h, prevE]
theorem layFromH_step {es : List En} {H : Bs → Bool} {i : Nat} {e : En} (h : es[i]? = some e) : layFromH H (prevE es i) (es.drop i) = if entBadH H (prevE es i) e = 0 then layFromH H (prevE es (i + 1)) (es.drop (i + 1)) else entBadH H (prevE es i) e := by
  obtain ⟨hi, he⟩ := List.getElem?_eq_some_iff.1 h
  have e1 : prevE es (i + 1) = some e := by simp [prevE, h]
  rw [e1, List.drop_eq_getElem_cons hi, he]
  rfl
theorem layH_bad {es : List En} {H : Bs → Bool} {k : Nat} {e : En} {F : Int} (hF : F = layFromH H (prevE es k) (es.drop k)) (he : es[k]? = some e) (h : entFault e ≠ 0) : F = entFault e := by
  have hb : entBadH H (prevE es k) e = entFault e := by simp [entBadH, h]
  rw [hF, layFromH_step he, hb, if_neg h]
theorem layH_low {es : List En} {H : Bs → Bool} {k : Nat} {e : En} {F : Int} (hF : F = layFromH H (prevE es k) (es.drop k)) (he : es[k]? = some e) (h : entFault e = 0) (hl : lowE (prevE es k) e = true) : F = 1 := by
  have hb : entBadH H (prevE es k) e = 1 := by simp [entBadH, h, hl]
  rw [hF, layFromH_step he, hb]; rfl
theorem layH_home {es : List En} {H : Bs → Bool} {k : Nat} {e : En} {F : Int} (hF : F = layFromH H (prevE es k) (es.drop k)) (he : es[k]? = some e) (h : entFault e = 0) (hl : lowE (prevE es k) e = false) (hh : H e.path = false) : F = 9 := by
  have hb : entBadH H (prevE es k) e = 9 := by simp [entBadH, h, hl, hh]
  rw [hF, layFromH_step he, hb]; rfl
theorem layH_next {es : List En} {H : Bs → Bool} {k : Nat} {e : En} {F : Int} (hF : F = layFromH H (prevE es k) (es.drop k)) (he : es[k]? = some e) (h : entFault e = 0) (hl : lowE (prevE es k) e = false) (hh : H e.path = true) : F = layFromH H (prevE es (k + 1)) (es.drop (k + 1)) := by
  have hb : entBadH H (prevE es k) e = 0 := by simp [entBadH, h, hl, hh]
  rw [hF, layFromH_step he, hb]; rfl
theorem layH_end {es : List En} {H : Bs → Bool} {k : Nat} {F : Int} (hF : F = layFromH H (prevE es k) (es.drop k)) (hk : es.length ≤ k) : F = 0 := by
  rw [hF, List.drop_eq_nil_of_le hk]; cases prevE es k <;> rfl
theorem joinB_ne {ns : List Bs} (h : ns ≠ []) : joinB ns ≠ [] := by
  cases ns with
  | nil => exact absurd rfl h
  | cons a l => simp [joinB]
theorem parentP_nil {p : Bs} : parentP p = [] ↔ aboveN (cutB p.tail) = [] := by
  constructor
  · intro h
    cases hc : aboveN (cutB p.tail) with
    | nil => rfl
    | cons a l =>
      exfalso
      have hm : parentP p ∈ aboveN (cutB p.tail) := by
        unfold parentP
        rw [List.getLastD_eq_getLast?, List.getLast?_eq_some_getLast (by rw [hc]; simp)]
        exact List.getLast_mem _
      rw [h] at hm
      obtain ⟨k, h0, hk, e⟩ := mem_aboveN.1 hm
      exact joinB_ne (by intro e; have := congrArg List.length e; rw [List.length_take, List.length_nil] at this; omega) e.symm
  · intro h
    simp [parentP, h]

end Go.Proofs.YtjkmbicedbdifaaGreat

namespace Go.Proofs.YtjkmbicedbdifaaGreat
open Go.RowKit Go.Shelf
set_option linter.unusedVariables false
attribute [local go_sem] Oper.semAt_some

theorem join_len'' : ∀ (ns : List Bs) (m : Nat), (∀ n ∈ ns, n.length ≤ m) → (joinB ns).length ≤ (m + 1) * ns.length
  | [], _, _ => by simp [joinB]
  | n :: ns, m, h => by
    have := join_len'' ns m (fun x hx => h x (by simp [hx]))
    have := h n (by simp)
    simp only [joinB, List.length_cons, List.length_append, Nat.mul_add, Nat.mul_one]; omega
/-- append(out, x) inside a fence: x laid in a block of its own, out owned. -/
theorem wpListIn_append_one {F : Fence} {m : Nat} {P : Program} {wr : World} {news : Array Value} {ops : Array Oper} {rest : List Oper} {o : Oper} {a : Act} {Q : Exit → Act → World → Prop} (hgd : o.guard = none) (s x : Operand) (t : TypeId)
    (ho : o.op = .call { callee := .builtin .append, args := #[s, x], argTypes := #[t, t] })
    (base : Nat) (e : TypeId) (i : TypeInfo) (z : Value) (size bytes : Nat) (ht : P.underlying t = some (.slice e)) (hi : P.info? e = some i) (hz : i.zero = some z)
    (hsize : i.size = size) (hby : i.bytes = bytes) (hzs : z.cells.size = size) (hsz : 0 < size)
    (v : Value) (n : Nat) (xs : List Value) (hs : a.eval s = v) (hown : wr.ownsRow base e size v n xs)
    (hx : a.eval x = .slice (some ⟨wr.heap.size, 0, none⟩) 1 1) (hl : news.size = size) (h1 : ∀ u ∈ news.toList, u.oneCell' = true)
    (h63 : n + 1 ≤ maxLen) (hbytes : (n + 1) * bytes ≤ 140737488355328) (hbase : base ≤ wr.heap.size)
    (h : ∀ v' w', w'.ownsRow base e size v' (n + 1) (xs ++ news.toList) → Kept (fun b => v.ownBlock = some b) wr w' → KeepsOthers wr w' → wpListIn F m P ops Q rest (a.put o.dst v') w') :
    wpListIn F m P ops Q (o :: rest) a (wr.alloc (.cells news e)) := by
  refine wpListIn_append_own _ hgd s x t ho base e i z size bytes ht hi hz hsize hby hzs hsz v n xs hs (hown.alloc _) ⟨wr.heap.size, 0, none⟩ 1 1 news.toList hx (by simp [hl]) ?_ h1 h63 hbytes (by simp; omega) ?_
  · intro j u hj
    have hadd : (⟨wr.heap.size, 0, none⟩ : Addr).add j = ⟨wr.heap.size, j, none⟩ := by unfold Addr.add; split <;> simp_all
    rw [hadd, cell_of_row _ wr.heap.size j news e (0, 0) (heap_alloc_new wr _)]
    simpa using hj
  · intro v' w' ho' hg _
    refine h v' w' ho' ⟨hg.os, hg.tape, hg.output, Nat.le_trans (by simp) hg.size, fun k hk hn => ?_⟩ ?_
    · rw [hg.block k (by simp; omega) (fun e => hn e.symm)]
      exact Below.heap_alloc _ _ _ hk
    · refine (KeepsOthers.alloc wr _).trans (KeepsOthers.of_grownBy hg fun j o ej hj => ?_)
      rcases (hown.alloc (.cells news e)).2 with ⟨rfl, _⟩ | ⟨g, cap, cur, rfl, _, hgb, _⟩
      · simp [Value.ownBlock] at ej
      · obtain rfl : g = j := by simpa [Value.ownBlock] using ej
        rw [hgb] at hj; cases hj; rfl

theorem boxed_kept {S : Nat → Prop} {W W' : World} {B : Nat} {t : TypeId} {v : Value} (h : Boxed W B t v) (hk : Kept S W W') (hn : ¬ S B) : Boxed W' B t v := (hk.block B h.lt hn).trans h
/-- A list in a box, its row beyond R: what is no cells may turn. -/
theorem ownS_own {β : Type} (R : Nat) (B : Nat) (t : TypeId) (f : β → List Bs) : Go.Own (fun s W => ∃ v, Boxed W B t v ∧ OwnS R W v (f s)) := by
  have := holdsRow_own (β := β) R B t 9 1 (fun s => (f s).length) (fun s => (f s).map vS) (fun _ _ => True)
  intro s W W' row hs hg hr
  obtain ⟨v, hv, hrow⟩ := hs
  obtain ⟨v', hv', hrow', _⟩ := this s W W' row ⟨v, hv, hrow, trivial⟩ hg hr
  exact ⟨v', hv', hrow'⟩

theorem aboveN_snoc (ps : List Bs) (x : Bs) (h : ps ≠ []) : aboveN (ps ++ [x]) = aboveN ps ++ [joinB ps] := by
  have hp := List.length_pos_iff.2 h
  obtain ⟨k, hk⟩ : ∃ k, ps.length = k + 1 := ⟨ps.length - 1, by omega⟩
  unfold aboveN
  have e1 : (ps ++ [x]).length - 1 = k + 1 := by simp; omega
  have e2 : ps.length - 1 = k := by omega
  rw [e1, e2, List.range_succ, List.map_append]
  congr 1
  · apply List.map_congr_left
    intro j hj
    have : j < k := by simpa using hj
    rw [List.take_append_of_le_length (by omega)]
  · simp [List.take_append_of_le_length (show k + 1 ≤ ps.length by omega), List.take_of_length_le (show ps.length ≤ k + 1 by omega)]
theorem aboveN_one (x : Bs) : aboveN [x] = [] := rfl
theorem join_snoc (ps : List Bs) (x : Bs) : str (joinB ps) ++ ((⟨#[47]⟩ : ByteArray) ++ str x) = str (joinB (ps ++ [x])) := by
  have e : (⟨#[47]⟩ : ByteArray) = str [47] := rfl
  rw [e, str_append, str_append, join_append]
  simp [joinB]
theorem join_len_pcs (ps : List Pc) : (joinB (pcs ps)).length ≤ 2097153 * ps.length := by
  have := join_len'' (pcs ps) 2097152 (fun n hn => by obtain ⟨x, _, rfl⟩ := List.mem_map.1 hn; exact x.2)
  rwa [pcs_length] at this

set_option maxRecDepth 100000 in
set_option maxHeartbeats 2000000 in
theorem implAboveOf_any (s : ByteArray) (w : World) (hs : s.size ≤ 2097152) :
    Calls Tryz.prog 118 #[.string s] w fun e w' => ∃ a c, e = .returned (.agg #[.int .i64 (faultP s.data.toList), .slice a (above s.data.toList).length c]) ∧ OwnS w.heap.size w' (.slice a (above s.data.toList).length c) (above s.data.toList) ∧ Below w.heap.size w w' := by
  obtain ⟨i1, ki, kz0, kz1, kz2⟩ := info_parts infoS
  refine (callsIn_wide (n := 4)).1 ?_
  refine callsIn_of_wp_marks Tryz.func118 rfl trivial ?_ rfl
  simp only [Tryz.ntmps118, List.size_toArray, List.length_cons, List.length_nil, Nat.reduceAdd, Nat.reduceSub, Array.replicate_succ, Array.replicate_zero, List.push_toArray, List.append_toArray, List.nil_append, List.cons_append]
  gi_wp2_with fail
  refine ⟨trivial, ?_⟩
  refine (callsIn_wide.2 (implPathFault_any s _ hs)).mono ?_
  rintro e w1 ⟨rfl, hb1⟩
  have X0 := hide ((Box.new w (.int .i64 0) (.slice none 0 0) 28).below hb1)
  have n1 : w.heap.size < w1.heap.size := by have := hb1.size; simp at this; omega
  have HB := hide (below_next (below_alloc w _) hb1)
  clear hb1
  by_cases hf : faultP s.data.toList = 0
  · have h1 := faultP_pos hf
    have HA := hide (above_good hf)
    have HF := hide hf
    have h1' : (1 : Int) ≤ (s.size : Int) := by omega
    have HT := hide (tail_data s)
    have hel := extract_le s 1 s.size
    rw [hf]
    clear hf
    gi_wp2_with fail
    refine ⟨trivial, ?_⟩
    refine (callsIn_wide.2 (piecesOf_in _ _)).mono ?_
    rintro e w2 ⟨rfl, rfl⟩
    gi_wp2_with fail
    have HXE := hide (show s.extract 1 s.size = str s.data.toList.tail by rw [← HT.out, str_of])
    have hrl : s.data.toList.tail.length ≤ 2097152 := by rw [List.length_tail, ← Lib.size_eq]; omega
    have hcl := cutB_length s.data.toList.tail
    have bA := Boxed.new w1 26 (.slice none 0 0)
    have bP := Boxed.new (w1.alloc (.cells #[.slice none 0 0] 26)) 9 (.string ⟨#[]⟩)
    have bT := Boxed.new ((w1.alloc (.cells #[.slice none 0 0] 26)).alloc (.cells #[.string ⟨#[]⟩] 9)) 9 (.string (s.extract 1 s.size))
    simp only [World.size_alloc] at bP bT
    have hB0 : Below w.heap.size w (((w1.alloc (.cells #[.slice none 0 0] 26)).alloc (.cells #[.string ⟨#[]⟩] 9)).alloc (.cells #[.string (s.extract 1 s.size)] 9)) := ((HB.out.alloc (by omega) _).alloc (by simp; omega) _).alloc (by simp; omega) _
    have hX0 := ((X0.out.below (below_alloc w1 (.cells #[.slice none 0 0] 26))).below (below_alloc _ (.cells #[.string ⟨#[]⟩] 9))).below (below_alloc _ (.cells #[.string (s.extract 1 s.size)] 9))
    refine wpIn_rangeFunc_ownF rfl (by decide) (gf := 123) (lb := #[.pointer (some ⟨w1.heap.size + 1 + 1, 0, none⟩)]) rfl trivial (enters_of Tryz.func123 (by kernel_rfl) rfl)
      (pieces_stops _ (w1.heap.size + 1 + 1) w.heap.size s.data.toList.tail hrl _ (by simp) (by rw [← HXE.out]; exact bT.cell)) belowK_t (belowK_b (by simp; omega)) (Below.refl _ _) (fun _ => rfl)
      (fun (pre : List Pc) W => ((∃ v, Boxed W w1.heap.size 26 v ∧ OwnS (w1.heap.size + 3) W v (aboveN (pcs pre))) ∧ Boxed W (w1.heap.size + 1) 9 (.string (str (joinB (pcs pre)))) ∧ Box W w.heap.size (.int .i64 0) (.slice none 0 0) ∧ w1.heap.size + 3 ≤ W.heap.size) ∧ Below w.heap.size w W)
      (fun c (pre : List Pc) W => False)
      (OwnFrom.and (OwnFrom.and (Own.from (ownS_own _ _ _ (fun pre => aboveN (pcs pre))) _) (OwnFrom.and (Own.from (boxed_own _ _ (fun pre => .string (str (joinB (pcs pre))))) _) (OwnFrom.and (Own.from (box_own _ _ _) _) (fun _ _ _ _ hs hg _ => Nat.le_trans hs hg.size)))) (ownFrom_below (Nat.le_refl _) (by simp; omega)))
      (fun c => ownFrom_pure _ _)
      ⟨⟨⟨_, (bA.alloc _).alloc _, OwnS.nil _ _⟩, bP.alloc _, hX0, by simp⟩, hB0⟩
      (fun x => { tmps := #[.string s, undef, .pointer (some ⟨w.heap.size, 0, none⟩), .int .i64 0, .pointer (some ⟨w1.heap.size, 0, none⟩), .pointer (some ⟨w1.heap.size + 1, 0, none⟩), .string (str x.1), .string s, .int .i64 0, .int .i64 0, .bool false, undef, undef, .string s, .string (s.extract 1 s.size), .func (.func 123) #[] #[.pointer (some ⟨w1.heap.size + 1 + 1, 0, none⟩)], .string (str x.1), undef, undef, undef, undef, undef, undef, undef, undef, undef, undef, undef, undef], defers := [] }) ?assign ?body ?done ?stop
    case assign =>
      intro l x W K hK
      gi_wp2_with fail
      exact hK
    case body =>
      rintro l pre ⟨x, hx⟩ W ⟨⟨⟨v, hv, hO⟩, hP, hX, hsz⟩, hB⟩ hlt
      obtain ⟨va, vc, rfl⟩ := hO.shape
      have hjl := join_len_pcs pre
      have hpl : pre.length ≤ 2097152 := by omega
      have HJS := hide (join_snoc (pcs pre) x)
      generalize hj : joinB (pcs pre) = j at *
      have HJ := hide hj
      clear hj
      have hz1 : ¬ 9223372036854775807 < 1 + (str x).size := by rw [str_size]; omega
      have hz2 : ¬ 9223372036854775807 < (str j).size + (1 + (str x).size) := by rw [str_size, str_size]; omega
      have hv0 := hv.cell
      have hv1 := hv.frozen
      have hP0 := hP.cell
      have hP1 := hP.frozen
      have HX := hide hX
      have HB' := hide hB
      have HO := hide hO
      have HV := hide hv
      have HP := hide hP
      clear hX hB hO hv hP
      by_cases h0 : pre = []
      · subst h0
        have he : (str j).toList.isEmpty = true := by rw [← HJ.out, ByteArray.toList_eq, str_data]; rfl
        gi_wp2_with fail
        have KS := hide (Kept.setCell (S := fun b => b = w1.heap.size + 1) (p := ⟨w1.heap.size + 1, 0, none⟩) (Kept.refl _ W) (fun _ => rfl) (.string (str j ++ ((⟨#[47]⟩ : ByteArray) ++ str x))))
        exact ⟨KeepsOthers.setCell _ _ _, (Below.refl w.heap.size W).setCell (p := ⟨w1.heap.size + 1, 0, none⟩) (by simp; omega) _, ⟨⟨_, HV.out.other (by omega) _, HO.out.kept KS.out (fun b hb e => by have := (HO.out.lt b hb).1; omega)⟩, by rw [pcs_snoc, ← HJS.out]; exact HP.out.set _, HX.out.kept KS.out (by omega), by have := KS.out.size; omega⟩, HB'.out.setCell (p := ⟨w1.heap.size + 1, 0, none⟩) (by simp; omega) _⟩
      · have he : (str j).toList.isEmpty = false := by
          rw [← HJ.out, ByteArray.toList_eq, str_data]
          cases pre with
          | nil => exact absurd rfl h0
          | cons p pre => rfl
        have HAS := hide (show aboveN (pcs (pre ++ [⟨x, hx⟩])) = aboveN (pcs pre) ++ [j] by rw [pcs_snoc, aboveN_snoc _ _ (by intro e; apply h0; exact List.map_eq_nil_iff.1 e), HJ.out])
        have hal : (aboveN (pcs pre)).length ≤ 2097152 := by rw [aboveN_length, pcs_length]; omega
        generalize aboveN (pcs pre) = ab at *
        have hm1 : ab.length + 1 ≤ maxLen := by unfold maxLen; omega
        have hm2 : (ab.length + 1) * 16 ≤ 140737488355328 := by omega
        gi_wp2_with (gi_at_builtin; refine wpListIn_append_one rfl (.tmp 19) (.tmp 21) 26 rfl (w1.heap.size + 3) 9 i1 (.string ⟨#[]⟩) 1 16 Tryz.underlying26 ki kz0 kz1 kz2 rfl (by decide) _ _ _ rfl HO.out rfl rfl (by intro u hu; simp at hu; subst hu; rfl) hm1 hm2 hsz ?_; intro v' w2 hown2 hkept hko; obtain ⟨g', cap', rfl⟩ := ownsRow_succ hown2; have O2 := hide (OwnS.snoc hown2 rfl); have K2 := hide hkept; have KO := hide hko; clear hown2 hkept hko; have HV2 := hide (boxed_kept HV.out K2.out (fun hS => by have := (HO.out.lt _ hS).1; omega)); have HP2 := hide (boxed_kept HP.out K2.out (fun hS => by have := (HO.out.lt _ hS).1; omega)); have hv2 := HV2.out.cell; have hv3 := HV2.out.frozen; have HP3 := hide (HP2.out.other (B' := w1.heap.size) (by omega) (.slice (some ⟨g', 0, none⟩) (ab.length + 1) cap')); have hP2 := HP3.out.cell; have hP3 := HP3.out.frozen)
        have KS := hide (Kept.setCell (S := fun b => b = w1.heap.size ∨ b = w1.heap.size + 1) (p := ⟨w1.heap.size + 1, 0, none⟩) (Kept.setCell (S := fun b => b = w1.heap.size ∨ b = w1.heap.size + 1) (p := ⟨w1.heap.size, 0, none⟩) (Kept.refl _ w2) (fun _ => .inl rfl) (.slice (some ⟨g', 0, none⟩) (ab.length + 1) cap')) (fun _ => .inr rfl) (.string (str j ++ ((⟨#[47]⟩ : ByteArray) ++ str x))))
        have hBK := K2.out.below (B := w.heap.size) (by have := HB'.out.size; omega) (fun k hk hS => by have := (HO.out.lt _ hS).1; omega)
        have hBS := KS.out.below (B := w.heap.size) (by have := K2.out.size; omega) (fun k hk hS => by omega)
        exact ⟨KO.out.trans ((KeepsOthers.setCell _ _ _).trans (KeepsOthers.setCell _ _ _)), hBK.trans hBS, ⟨⟨_, (HV2.out.set _).other (by omega) _, by rw [HAS.out]; exact O2.out.kept KS.out (fun b hb e => by have := (O2.out.lt b hb).1; omega)⟩, by rw [pcs_snoc, ← HJS.out]; exact HP3.out.set _, (HX.out.kept K2.out (fun hS => by have := (HO.out.lt _ hS).1; omega)).kept KS.out (by omega), by have := K2.out.size; have := KS.out.size; omega⟩, (HB'.out.trans hBK).trans hBS⟩
    case done =>
      rintro D ys W hD hys ⟨⟨⟨v, hv, hO⟩, hP, hX, hsz⟩, hB⟩ hK
      rw [hys, ← HA.out] at hO
      obtain ⟨va, vc, rfl⟩ := hO.shape
      have hv0 := hv.cell
      have HX := hide hX
      have HB' := hide hB
      have HK := hide hK
      have HO := hide hO
      clear hX hB hK hO hys hv hP
      obtain ⟨⟨q0, q1⟩, q2, q3⟩ := HX.out
      gi_wp2_with fail
      obtain ⟨k1, k2, k3⟩ := end_box HX.out.1 HK.out (.int .i64 0) (.slice va (above s.data.toList).length vc)
      refine ⟨by simp, .inl ⟨_, _, rfl, run_takeDeferred k1, ?_⟩⟩
      refine ⟨.agg #[.int .i64 0, .slice va (above s.data.toList).length vc], by simp [results, Tryz.results118, go_sem, k2, k3], va, vc, by rw [HF.out], ?_, ?_⟩
      · exact ownsRow_putObj ((HO.out.kept (Kept.two W w.heap.size 0 1 _ _) (fun b hb e => by have := (HO.out.lt b hb).1; omega)).mono (by omega)) _ k1 rfl
      · exact ((HB'.out.setCell (p := ⟨w.heap.size, 0, none⟩) (Nat.le_refl _) _).setCell (p := ⟨w.heap.size, 1, none⟩) (Nat.le_refl _) _).trans (belowK_b (w := w) (Nat.le_refl _) _ D _ _ (by simp at hD; omega) k1 rfl rfl)
    case stop =>
      rintro D c pre W hD hpre hc hK
      exact hc.elim
  · have HA := hide (above_bad hf)
    obtain ⟨⟨q0, q1⟩, q2, q3⟩ := X0.out
    obtain ⟨c, hc⟩ : ∃ c, c = faultP s.data.toList := ⟨_, rfl⟩
    rw [← hc] at hf ⊢
    have HC := hide hc
    clear hc
    have hf2 : (c != 0) = true := by simpa using hf
    gi_wp2_with fail
    have h2 := X0.out.1.set (.int .i64 c) (.slice none 0 0)
    refine ⟨.agg #[.int .i64 c, .slice none 0 0], by simp [results, Tryz.results118, go_sem, h2.1, h2.2], ?_⟩
    rw [HA.out, ← HC.out]
    exact ⟨_, _, rfl, OwnS.nil _ _, (HB.out.setCell (p := ⟨w.heap.size, 0, none⟩) (Nat.le_refl _) _).setCell (p := ⟨w.heap.size, 1, none⟩) (Nat.le_refl _) _⟩

set_option maxRecDepth 100000 in
set_option maxHeartbeats 2000000 in
theorem implParentOf_any (s : ByteArray) (w : World) (hs : s.size ≤ 2097152) :
    Calls Tryz.prog 84 #[.string s] w fun e w' => e = .returned (.agg #[.int .i64 (parC s.data.toList), .string (str (parT s.data.toList))]) ∧ Below w.heap.size w w' := by
  have hlen := above_len s.data.toList
  go_enter Tryz.func84, Tryz.ntmps84
  go_wp2_with fail
  refine (implAboveOf_any s _ hs).mono ?_
  rintro e w1 ⟨va, vc, rfl, hO, hb1⟩
  have X0 := hide ((Box.new w (.int .i64 0) (.string ⟨#[]⟩) 89).below hb1)
  have n1 : w.heap.size < w1.heap.size := by have := hb1.size; simp at this; omega
  have HB := hide (below_next (below_alloc w _) hb1)
  have HO := hide hO
  clear hb1 hO
  by_cases hf : faultP s.data.toList = 0
  · have HF := hide hf
    have HA := hide (above_good hf)
    rw [hf]
    clear hf
    by_cases h0 : above s.data.toList = []
    · have HE := hide (par_none HF.out (by rw [← HA.out]; exact h0))
      rw [h0]
      obtain ⟨⟨q0, q1⟩, q2, q3⟩ := X0.out
      clear h0 hlen
      go_wp2_with fail
      rw [HE.out.1, HE.out.2]
      have h2 := (X0.out.1.set (.int .i64 4) (.string ⟨#[]⟩)).below (below_alloc _ (.cells #[.int .i64 0, .slice va 0 vc] 28))
      exact bodyPost_ret (v := .agg #[.int .i64 4, .string ⟨#[]⟩]) (by simp [results, Tryz.results84, go_sem, h2.1, h2.2]) rfl ⟨rfl, ((HB.out.setCell (p := ⟨w.heap.size, 0, none⟩) (Nat.le_refl _) _).setCell (p := ⟨w.heap.size, 1, none⟩) (Nat.le_refl _) _).alloc (by simp [World.setCell]; omega) _⟩
    · have HE := hide (par_good HF.out (by rw [← HA.out]; exact h0))
      have hp := List.length_pos_iff.2 h0
      obtain ⟨b, off, p, rfl, hb, hpe, hck⟩ := HO.out.reads.at (k := (above s.data.toList).length - 1) (by omega)
      have HP := hide (show (aboveN (cutB s.data.toList.tail)).getLastD [] = p by rw [← HA.out]; exact (Option.some.inj (hpe.symm.trans (getLast_at h0))).symm)
      clear hpe
      generalize (above s.data.toList).length = n at *
      have hz : ((n : Int) == 0) = false := by simp; omega
      have hp' : (1 : Int) ≤ (n : Int) := by omega
      have hp2 : (n : Int) ≤ 2 := by omega
      obtain ⟨⟨q0, q1⟩, q2, q3⟩ := X0.out
      go_wp2_with fail
      rw [HE.out.1, HE.out.2, HP.out]
      have h2 := (X0.out.1.set (.int .i64 0) (.string (str p))).below (below_alloc _ (.cells #[.int .i64 0, .slice (some ⟨b, off, none⟩) n vc] 28))
      exact bodyPost_ret (v := .agg #[.int .i64 0, .string (str p)]) (by simp [results, Tryz.results84, go_sem, h2.1, h2.2]) rfl ⟨rfl, ((HB.out.setCell (p := ⟨w.heap.size, 0, none⟩) (Nat.le_refl _) _).setCell (p := ⟨w.heap.size, 1, none⟩) (Nat.le_refl _) _).alloc (by simp [World.setCell]; omega) _⟩
  · have HE := hide (par_bad hf)
    obtain ⟨⟨q0, q1⟩, q2, q3⟩ := X0.out
    obtain ⟨c, hc⟩ : ∃ c, c = faultP s.data.toList := ⟨_, rfl⟩
    rw [← hc] at hf ⊢
    have HC := hide hc
    clear hc
    have hf2 : (c != 0) = true := by simpa using hf
    go_wp2_with fail
    rw [HE.out.1, HE.out.2, ← HC.out]
    have h2 := (X0.out.1.set (.int .i64 c) (.string ⟨#[]⟩)).below (below_alloc _ (.cells #[.int .i64 c, .slice va (above s.data.toList).length vc] 28))
    exact bodyPost_ret (v := .agg #[.int .i64 c, .string ⟨#[]⟩]) (by simp [results, Tryz.results84, go_sem, h2.1, h2.2]) rfl ⟨rfl, ((HB.out.setCell (p := ⟨w.heap.size, 0, none⟩) (Nat.le_refl _) _).setCell (p := ⟨w.heap.size, 1, none⟩) (Nat.le_refl _) _).alloc (by simp [World.setCell]; omega) _⟩

set_option maxRecDepth 100000 in
set_option maxHeartbeats 2000000 in
theorem implIsBelow_any (s t : ByteArray) (w : World) (hs : s.size ≤ 2097152) :
    Calls Tryz.prog 163 #[.string s, .string t] w fun e w' => e = .returned (.bool (isBelow s.data.toList t.data.toList)) ∧ Below w.heap.size w w' := by
  have hlen := above_len s.data.toList
  go_enter Tryz.func163, Tryz.ntmps163
  go_wp2_with fail
  refine (implAboveOf_any s _ hs).mono ?_
  rintro e w1 ⟨va, vc, rfl, hO, hb1⟩
  have HB := hide hb1
  have HO := hide hO
  clear hb1 hO
  have hfield : ∀ (c v : Value) (w : World), (Instr.field 28 (.agg #[c, v]) 1).run Tryz.prog w = .ok v w := fun c v w => by kernel_rfl
  go_wp2_with fail
  refine (has_any va vc (above s.data.toList) t _ HO.out.reads (by omega) _ rfl).mono ?_
  rintro e w2 ⟨rfl, rfl⟩
  go_wp2_with fail
  go_ret
  exact ⟨rfl, HB.out⟩

end Go.Proofs.YtjkmbicedbdifaaGreat

namespace Go.Proofs.YtjkmbicedbdifaaGreat
open Go.RowKit
set_option linter.unusedVariables false

theorem hasDir_cons (es : List En) (q : Bs) (k : Nat) {e : En} (h : es[k]? = some e) : hasDir (es.drop k) q = ((decide (e.path = q) && dirK e.kind) || hasDir (es.drop (k + 1)) q) := by
  rw [drop_at h]; simp [hasDir]

set_option maxRecDepth 100000 in
set_option maxHeartbeats 1600000 in
theorem parentFault_any (a : Option Addr) (c n : Nat) (es : List En) (p : Bs) (w : World) (h : RdE w a es) (hn : n = es.length) (hl : es.length ≤ 1048576) (hf : faultP p = 0) (hp : p.length ≤ 1048576) :
    Calls Tryz.prog 112 #[.slice a n c, .string (str p)] w fun r w' => r = .returned (.int .i64 (if homeP es p then 0 else 9)) ∧ Below w.heap.size w w' := by
  subst hn
  have HR := hide h
  clear h
  obtain ⟨F, hF⟩ : ∃ F : Int, F = if homeP es p then 0 else 9 := ⟨_, rfl⟩
  rw [← hF]
  by_cases h0 : parentP p = []
  · have HE := hide (show F = 0 from by rw [hF]; simp [homeP, h0])
    have HP := hide (par_none hf (parentP_nil.1 h0))
    clear h0 hf hF
    go_enter Tryz.func112, Tryz.ntmps112
    go_wp2_with fail
    refine (implParentOf_any _ _ (by rw [str_size]; omega)).mono ?_
    rintro r w1 ⟨rfl, hb1⟩
    rw [str_data, HP.out.1, HP.out.2]
    have HB1 := hide (below_next hb1 (below_alloc w1 (.cells #[.int .i64 4, .string (str [])] 89)))
    clear hb1
    go_wp2_with fail
    go_ret
    exact ⟨ret_int HE.out.symm, HB1.out⟩
  · have HE := hide (show F = if hasDir es (parentP p) then 0 else 9 from by rw [hF]; simp [homeP, h0])
    have HP := hide (par_good hf (fun e => h0 (parentP_nil.2 e)))
    have HQ : Hid (parT p = parentP p) := hide HP.out.2
    clear h0 hf hF
    go_enter Tryz.func112, Tryz.ntmps112
    go_wp2_with fail
    refine (implParentOf_any _ _ (by rw [str_size]; omega)).mono ?_
    rintro r w1 ⟨rfl, hb1⟩
    rw [str_data, HP.out.1, HQ.out]
    generalize parentP p = q at *
    have X1 := hide (Box.new w1 (.int .i64 0) (.string (str q)) 89)
    have HB1 := hide (below_next hb1 (below_alloc w1 (.cells #[.int .i64 0, .string (str q)] 89)))
    clear hb1 HP HQ
    go_wp2_with fail
    generalize w1.alloc (.cells #[.int .i64 0, .string (str q)] 89) = W1 at *
    generalize w1.heap.size = b1 at *
    go_loopw [15] (fun i wr => ∃ k : Nat, k ≤ es.length ∧ i = .int .i64 k ∧ Hid (hasDir es q = hasDir (es.drop k) q) ∧ Hid (Below W1.heap.size W1 wr)) (fun i _ => es.length - (intOf i).toNat)
    case atStart => exact ⟨0, Nat.zero_le _, rfl, hide (by simp), hide (Below.refl _ _)⟩
    case round =>
      obtain ⟨k, hk, rfl, HF, HW⟩ := hrel
      have HR1 := hide (HR.out.below (below_next HB1.out HW.out))
      obtain ⟨⟨t0, t1⟩, t2, t3⟩ := X1.out.below HW.out
      by_cases hlt : k < es.length
      · obtain ⟨b, off, e, x, cc, rfl, hb, he, c0, c1, c2, c3, hr⟩ := HR1.out.at hlt
        have HX := hide he
        clear he hr
        have HF2 := hide (HF.out.trans (hasDir_cons es q k HX.out))
        have hb1w : b1 < wr.heap.size := World.block_lt_of_cell? _ _ t0
        by_cases hq : e.path = q
        · have hs1 := str_yes hq
          cases hd : dirK e.kind
          · have HO := hide (show hasDir es q = hasDir (es.drop (k + 1)) q from by rw [HF2.out]; simp [hd])
            have HD := hide hd
            clear hd hq
            go_wp2_with fail
            refine (itemOf_any _ _ _ _ _ _ _).mono ?_
            rintro r w3 ⟨rfl, hb3⟩
            go_wp2_with fail
            refine (isDir_any _ _ _ _ _ _ _).mono ?_
            rintro r w4 ⟨rfl, hb4⟩
            rw [HD.out]
            have HW4 := hide (below_next HW.out (below_next (below_alloc wr _) (below_next hb3 hb4)))
            clear hb3 hb4
            go_wp2_with fail
            go_roundw
            case rel => exact ⟨k + 1, by omega, by go_num, HO, HW4⟩
            case measure => simp [intOf]; omega
          · have HO := hide (show hasDir es q = true from by rw [HF2.out]; simp [hd, hq])
            have HD := hide hd
            clear hd hq
            go_wp2_with fail
            refine (itemOf_any _ _ _ _ _ _ _).mono ?_
            rintro r w3 ⟨rfl, hb3⟩
            go_wp2_with fail
            refine (isDir_any _ _ _ _ _ _ _).mono ?_
            rintro r w4 ⟨rfl, hb4⟩
            rw [HD.out]
            have HW4 := hide (below_next HW.out (below_next (below_alloc wr _) (below_next hb3 hb4)))
            clear hb3 hb4
            go_wp2_with fail
            go_ret
            exact ⟨ret_int (by rw [HE.out, HO.out]; rfl), below_next HB1.out HW4.out⟩
        · have hs1 := str_no hq
          have HO := hide (show hasDir es q = hasDir (es.drop (k + 1)) q from by rw [HF2.out]; simp [hq])
          clear hq
          go_wp2_with fail
          go_roundw
          case rel => exact ⟨k + 1, by omega, by go_num, HO, hide (below_next HW.out (below_alloc wr _))⟩
          case measure => simp [intOf]; omega
      · have HO := hide (show hasDir es q = false from by rw [HF.out, List.drop_eq_nil_of_le (by omega)]; rfl)
        go_wp2_with fail
        go_ret
        exact ⟨ret_int (by rw [HE.out, HO.out]; rfl), below_next HB1.out HW.out⟩

set_option maxRecDepth 100000 in
set_option maxHeartbeats 1600000 in
theorem entriesFault_any (a : Option Addr) (c n : Nat) (es : List En) (w : World) (h : RdE w a es) (hn : n = es.length) (hl : es.length ≤ 1048576) (hs : SmallE es) :
    Calls Tryz.prog 73 #[.slice a n c] w fun r w' => r = .returned (.int .i64 (layFromH (homeP es) none es)) ∧ Below w.heap.size w w' := by
  subst hn
  obtain ⟨F, hF⟩ : ∃ F : Int, F = layFromH (homeP es) (prevE es 0) (es.drop 0) := ⟨_, rfl⟩
  have e0 : layFromH (homeP es) none es = F := by rw [hF]; simp [prevE]
  rw [e0]
  have HE := hide hF
  have HR := hide h
  have HS := hide hs
  clear h hs e0 hF
  go_enter Tryz.func73, Tryz.ntmps73
  go_wp2_with fail
  go_loopw [9] (fun i wr => ∃ k : Nat, k ≤ es.length ∧ i = .int .i64 k ∧ Hid (F = layFromH (homeP es) (prevE es k) (es.drop k)) ∧ Hid (Below w.heap.size w wr)) (fun i _ => es.length - (intOf i).toNat)
  case atStart => exact ⟨0, Nat.zero_le _, rfl, HE, hide (Below.refl _ _)⟩
  case round =>
    obtain ⟨k, hk, rfl, HF, HW⟩ := hrel
    have HR1 := hide (HR.out.below HW.out)
    by_cases hlt : k < es.length
    · obtain ⟨b, off, e, x, cc, rfl, hb, he, c0, c1, c2, c3, hr⟩ := HR1.out.at hlt
      have HX := hide he
      have HRc := hide (hr.below (below_alloc wr (.cells #[.string (str e.path), .int .i64 e.kind, .int .i64 e.size, .slice x e.chunks.length cc] 40)))
      have hsm := HS.out e (List.mem_of_getElem? he)
      have HN := hide (below_next HW.out (below_alloc wr (.cells #[.string (str e.path), .int .i64 e.kind, .int .i64 e.size, .slice x e.chunks.length cc] 40)))
      have F4 := hide (Four.new wr (.string (str e.path)) (.int .i64 e.kind) (.int .i64 e.size) (.slice x e.chunks.length cc) 40)
      clear he hr
      go_wp2_with fail
      clear c0 c1 c2 c3
      generalize wr.alloc (.cells #[.string (str e.path), .int .i64 e.kind, .int .i64 e.size, .slice x e.chunks.length cc] 40) = W1 at *
      generalize wr.heap.size = b1 at *
      refine (implEntryFault_any e _ _ _ _ HRc.out rfl hsm.1 hsm.2).mono ?_
      rintro r w1 ⟨rfl, hb1⟩
      obtain ⟨f0, f1, f2, f3⟩ := F4.out.below hb1
      have HW1 := hide (below_next HN.out hb1)
      have HR2 := hide (HR.out.below HW1.out)
      clear hb1 HRc F4 HN HR1 HW
      by_cases hz : entFault e = 0
      · have hpz := entFault_zero hz
        have HPZ := hide hpz
        have HZ := hide hz
        rw [hz]
        clear hz hpz
        cases k with
        | zero =>
          have HL := hide (show lowE (prevE es 0) e = false from rfl)
          go_wp2_with fail
          go_quiet (fail)
          go_wp2_with fail
          have HW2 := hide (below_drewN HW1.out nq)
          have HR3 := hide (HR2.out.below (below_drewN (Below.refl w1.heap.size w1) nq))
          clear HW1 HR2
          generalize w1.drewN nq = W at *
          refine (parentFault_any _ c es.length es e.path W HR3.out rfl hl HPZ.out hsm.1).mono ?_
          rintro r w4 ⟨rfl, hb4⟩
          have HW3 := hide (below_next HW2.out hb4)
          clear hb4
          cases hh : homeP es e.path
          · have HO := hide (layH_home HF.out HX.out HZ.out HL.out hh)
            clear hh
            go_wp2_with fail
            go_ret
            exact ⟨ret_int HO.out.symm, HW3.out⟩
          · have HO := hide (layH_next HF.out HX.out HZ.out HL.out hh)
            clear hh
            go_wp2_with fail
            go_roundw
            case rel => exact ⟨1, by omega, by go_num, HO, HW3⟩
            case measure => simp [intOf]; omega
        | succ j =>
          have hg : (0 : Int) < ((j + 1 : Nat) : Int) := by omega
          obtain ⟨b2, off2, e2, x2, cc2, hbb, hb2, he2, d0, d1, d2, d3, hr2⟩ := HR2.out.at (show j < es.length by omega)
          simp only [Option.some.injEq, Addr.mk.injEq, and_true] at hbb
          obtain ⟨rfl, rfl⟩ := hbb
          have HL := hide (show lowE (prevE es (j + 1)) e = (Op.bytesLess e.path e2.path || (e.path == e2.path)) from by simp [prevE, lowE, he2])
          clear he2 d1 d2 d3 hr2
          cases hlow : (Op.bytesLess (str e.path).toList (str e2.path).toList || ((str e.path).toList == (str e2.path).toList))
          · have HL2 := hide (show lowE (prevE es (j + 1)) e = false from by rw [HL.out]; rw [str_toList, str_toList] at hlow; exact hlow)
            go_wp2_with fail
            go_quiet (fail)
            go_wp2_with fail
            have HW2 := hide (below_drewN HW1.out nq)
            have HR3 := hide (HR2.out.below (below_drewN (Below.refl w1.heap.size w1) nq))
            clear HW1 HR2
            generalize w1.drewN nq = W at *
            refine (parentFault_any _ c es.length es e.path W HR3.out rfl hl HPZ.out hsm.1).mono ?_
            rintro r w4 ⟨rfl, hb4⟩
            have HW3 := hide (below_next HW2.out hb4)
            clear hb4
            cases hh : homeP es e.path
            · have HO := hide (layH_home HF.out HX.out HZ.out HL2.out hh)
              clear hh
              go_wp2_with fail
              go_ret
              exact ⟨ret_int HO.out.symm, HW3.out⟩
            · have HO := hide (layH_next HF.out HX.out HZ.out HL2.out hh)
              clear hh
              go_wp2_with fail
              go_roundw
              case rel => exact ⟨j + 1 + 1, by omega, by go_num, HO, HW3⟩
              case measure => simp [intOf]; omega
          · have HL2 := hide (show lowE (prevE es (j + 1)) e = true from by rw [HL.out]; rw [str_toList, str_toList] at hlow; exact hlow)
            have HO := hide (layH_low HF.out HX.out HZ.out HL2.out)
            go_wp2_with fail
            go_quiet (fail)
            go_wp2_with fail
            go_ret
            exact ⟨ret_int HO.out.symm, below_drewN HW1.out _⟩
      · have HZ := hide (layH_bad HF.out HX.out hz)
        have hz2 : (entFault e != 0) = true := by simp; exact hz
        clear hz
        go_wp2_with fail
        go_ret
        exact ⟨ret_int HZ.out.symm, HW1.out⟩
    · have HZ := hide (layH_end HF.out (by omega))
      go_wp2_with fail
      go_ret
      exact ⟨ret_int HZ.out.symm, HW.out⟩

set_option maxRecDepth 100000 in
theorem implLayerFault_any (a : Option Addr) (c n : Nat) (es : List En) (w : World) (h : RdE w a es) (hn : n = es.length) (hl : es.length ≤ 1048576) (hs : SmallE es) :
    Calls Tryz.prog 33 #[.slice a n c] w fun r w' => r = .returned (.int .i64 (layFaultP es)) ∧ Below w.heap.size w w' := by
  subst hn
  by_cases hm : 12 < es.length
  · have HE := hide (layFaultP_many hm)
    have hm2 : (12 : Int) < (es.length : Int) := by omega
    clear h hs
    go_enter Tryz.func33, Tryz.ntmps33
    go_wp2_with fail
    go_ret
    exact ⟨ret_int HE.out.symm, Below.refl _ _⟩
  · have HE : Hid (layFaultP es = layFromH (homeP es) none es) := hide (by simp [layFaultP, hm])
    have hm2 : ¬ (12 : Int) < (es.length : Int) := by omega
    have HF := hide (entriesFault_any a c es.length es w h rfl hl hs)
    clear h hs hm
    generalize layFaultP es = F at HE ⊢
    go_enter Tryz.func33, Tryz.ntmps33
    go_wp2_with fail
    refine HF.out.mono ?_
    rintro r w1 ⟨rfl, hb⟩
    have HB := hide hb
    clear hb
    go_wp2_with fail
    go_ret
    exact ⟨ret_int HE.out.symm, HB.out⟩

/-- What the program answers to a layer and a path. -/
def askP (es : List En) (p : Bs) : Int := if layFaultP es = 0 then faultP p else layFaultP es

end Go.Proofs.YtjkmbicedbdifaaGreat

namespace Go.Proofs.YtjkmbicedbdifaaGreat
open Go.RowKit Go.Maps
set_option linter.unusedVariables false
attribute [local go_sem ↓] Go.wp_at_zero Go.wp_at_succ

theorem RdE.one {w : World} {b off : Nat} {es : List En} {k : Nat} {e : En} (h : RdE w (some ⟨b, off, none⟩) es) (he : es[k]? = some e) : RdE w (some ⟨b, off + k * 4, none⟩) [e] := by
  intro _
  have hk := (List.getElem?_eq_some_iff.1 he).1
  obtain ⟨b', off', A, C, e1, hb, hc⟩ := h (by intro e; simp [e] at hk)
  simp only [Option.some.injEq, Addr.mk.injEq, and_true] at e1
  obtain ⟨rfl, rfl⟩ := e1
  refine ⟨b, off + k * 4, fun _ => A k, fun _ => C k, rfl, hb, fun i x hx => ?_⟩
  have hi : i = 0 := by
    have := (List.getElem?_eq_some_iff.1 hx).1
    simp at this
    exact this
  subst hi
  simp only [List.getElem?_cons_zero, Option.some.injEq] at hx
  subst hx
  simp only [Nat.zero_mul, Nat.add_zero]
  exact hc k e he

/-- A result: a code and a layer of its own. -/
def ResE (q : Int) (es : List En) (w : World) (r : Ending) (w' : World) : Prop :=
  ∃ av cv, r = .returned (.agg #[.int .i64 q, .slice av es.length cv]) ∧ GE w.heap.size w'.heap.size w' (.slice av es.length cv) es ∧ Below w.heap.size w w'
theorem ResE.of {q : Int} {es : List En} {w w2 w3 : World} {B b n : Nat} {av : Option Addr} {cv : Nat} {u v : Value} (hB : b < B) (hw : w.heap.size ≤ b) (hn : n = es.length) (hG : GE B w3.heap.size w3 (.slice av n cv) es) (hb : Below w.heap.size w w3) :
    ResE q es w (.returned (.agg #[.int .i64 q, .slice av n cv])) ((w3.setCell ⟨b, 0, none⟩ u).setCell ⟨b, 1, none⟩ v) := by
  subst hn
  refine ⟨av, cv, rfl, ?_, (hb.setCell hw _).setCell hw _⟩
  have hs : ((w3.setCell ⟨b, 0, none⟩ u).setCell ⟨b, 1, none⟩ v).heap.size = w3.heap.size := by simp [World.setCell]
  rw [hs]
  exact (hG.kept (Kept.two w3 b 0 1 u v) (fun x h1 _ h2 => by omega)).mono (by omega)
theorem ResE.bad {q : Int} {w w3 : World} {b : Nat} {u v : Value} (hw : w.heap.size ≤ b) (hb : Below w.heap.size w w3) :
    ResE q [] w (.returned (.agg #[.int .i64 q, .slice none 0 0])) ((w3.setCell ⟨b, 0, none⟩ u).setCell ⟨b, 1, none⟩ v) :=
  ⟨none, 0, rfl, GE.nil _ _ _, (hb.setCell hw _).setCell hw _⟩


/-- What EntryAt answers. -/
def findCode (es : List En) (p : Bs) : Int := if askE es p = 0 then (match atE es p with | some _ => 0 | none => 4) else askE es p
def findList (es : List En) (p : Bs) : List En := if askE es p = 0 then (match atE es p with | some k => (es[k]?).toList | none => []) else []

end Go.Proofs.YtjkmbicedbdifaaGreat

namespace Go.Proofs.YtjkmbicedbdifaaGreat
open Go.RowKit Go.Maps
set_option linter.unusedVariables false
attribute [local go_sem ↓] Go.wp_at_zero Go.wp_at_succ

/-- Is an entry dropped with a path? -/
def goesE (p : Bs) (also : Bool) (e : En) : Bool := belowB e.path p || (also && decide (e.path = p))
def restE (es : List En) (p : Bs) (also : Bool) : List En := es.filter fun e => !(goesE p also e)
theorem restE_take_in {es : List En} {p : Bs} {also : Bool} {k : Nat} {e : En} (he : es[k]? = some e) (h : goesE p also e = false) : restE (es.take (k + 1)) p also = restE (es.take k) p also ++ [e] := by
  rw [take_snoc_at he]; simp [restE, h]
theorem restE_take_out {es : List En} {p : Bs} {also : Bool} {k : Nat} {e : En} (he : es[k]? = some e) (h : goesE p also e = true) : restE (es.take (k + 1)) p also = restE (es.take k) p also := by
  rw [take_snoc_at he]; simp [restE, h]
theorem restE_len (es : List En) (p : Bs) (also : Bool) : (restE es p also).length ≤ es.length := List.length_filter_le _ _
theorem restE_small {es : List En} (h : SmallE es) (p : Bs) (also : Bool) : SmallE (restE es p also) := fun e he => h e (List.mem_filter.1 he).1
theorem SE.made (w : World) : SE w.heap.size (w.alloc (.cells #[] 40)) (.slice (some ⟨w.heap.size, 0, none⟩) 0 0) [] := (GE.made w).se

/-- v is a row of entries made since w0, whose chunks were read then. -/
def LE (w0 w : World) (v : Value) (es : List En) : Prop :=
  ∃ rs : List Rw, rs.map Rw.e = es ∧ w.ownsRow w0.heap.size 40 4 v es.length (rowR rs) ∧ ∀ r ∈ rs, Reads .i64 w0 r.a r.e.chunks
theorem LE.se {w0 w : World} {v : Value} {es : List En} (h : LE w0 w v es) (hb : Below w0.heap.size w0 w) : SE w0.heap.size w v es := by
  obtain ⟨rs, he, h1, h2⟩ := h
  exact ⟨rs, he, h1, fun r hr => (h2 r hr).below hb⟩
theorem LE.shape {w0 w : World} {v : Value} {es : List En} (h : LE w0 w v es) : ∃ a c, v = .slice a es.length c := by
  obtain ⟨rs, _, h1, _⟩ := h
  exact ownsRow_shape h1
theorem LE.made (w : World) : LE w (w.alloc (.cells #[] 40)) (.slice (some ⟨w.heap.size, 0, none⟩) 0 0) [] :=
  ⟨[], rfl, World.ownsRow_made w #[] 0 (Nat.le_refl _) (Nat.zero_le _) rfl, fun r hr => by simp at hr⟩
theorem LE.push {w0 w2 : World} {v' : Value} {es : List En} {rs : List Rw} {e : En} {a : Option Addr} {c m : Nat} (he : rs.map Rw.e = es) (hm : m = es.length)
    (h2 : ∀ r ∈ rs, Reads .i64 w0 r.a r.e.chunks) (hr : Reads .i64 w0 a e.chunks)
    (hv' : w2.ownsRow w0.heap.size 40 4 v' (m + 1) (rowR rs ++ cellsR ⟨e, a, c⟩)) : LE w0 w2 v' (es ++ [e]) := by
  subst hm
  refine ⟨rs ++ [⟨e, a, c⟩], by rw [List.map_append, he]; rfl, ?_, fun r hx => ?_⟩
  · rw [rowR_append, List.length_append]
    simpa [rowR] using hv'
  · rcases List.mem_append.1 hx with hx | hx
    · exact h2 r hx
    · simp only [List.mem_singleton] at hx
      subst hx
      exact hr

set_option maxRecDepth 100000 in
set_option maxHeartbeats 3200000 in
theorem l4Without_any (a : Option Addr) (c n : Nat) (es : List En) (p : Bs) (also : Bool) (w : World) (h : RdE w a es) (hn : n = es.length) (hl : es.length ≤ 1048576) (hs : SmallE es) (hp : p.length ≤ 1048576) :
    Calls Tryz.prog 147 #[.slice a n c, .string (str p), .bool also] w fun r w' => ∃ g cv, r = .returned (.slice (some ⟨g, 0, none⟩) (restE es p also).length cv) ∧ GE w.heap.size w'.heap.size w' (.slice (some ⟨g, 0, none⟩) (restE es p also).length cv) (restE es p also) ∧ Below w.heap.size w w' := by
  subst hn
  obtain ⟨i1, ki, kz0, kz1, kz2⟩ := info_parts Tryz.infoEn
  have HA := hide h
  have HS := hide hs
  clear h hs
  cases also
  case false =>
    go_enter Tryz.func147, Tryz.ntmps147
    go_wp2_with fail
    go_loopw [7, 8] (fun v i wr => ∃ j : Nat, j ≤ es.length ∧ i = .int .i64 j ∧ Hid (LE w wr v (restE (es.take j) p false)) ∧ Hid (∃ g, v.ownBlock = some g) ∧ Hid (Below w.heap.size w wr)) (fun _ i _ => es.length - (intOf i).toNat)
    case atStart => exact ⟨0, Nat.zero_le _, rfl, hide (LE.made w), hide ⟨_, rfl⟩, hide (below_alloc _ _)⟩
    case round =>
      obtain ⟨j, hj, rfl, HG, HOb, HW⟩ := hrel
      obtain ⟨lv, lc, rfl⟩ := HG.out.shape
      have hrl := restE_len (es.take j) p false
      have htl := take_len hj
      have hsz := HW.out.size
      by_cases hlt : j < es.length
      · obtain ⟨b, off, e, x, cc, rfl, hb, he, c0, c1, c2, c3, hr⟩ := HA.out.at hlt
        have HX := hide he
        have HRc := hide hr
        have hsm := HS.out e (List.mem_of_getElem? he)
        have c0 := (HW.out.cell (p := ⟨b, off + j * 4, none⟩) hb).trans c0
        have c1 := (HW.out.cell (p := ⟨b, off + j * 4 + 1, none⟩) hb).trans c1
        have c2 := (HW.out.cell (p := ⟨b, off + j * 4 + 2, none⟩) hb).trans c2
        have c3 := (HW.out.cell (p := ⟨b, off + j * 4 + 3, none⟩) hb).trans c3
        have hm1 : (restE (es.take j) p false).length + 1 ≤ maxLen := by unfold maxLen; omega
        have hm1' : ((restE (es.take j) p false).length + 1) * 56 ≤ 140737488355328 := by omega
        clear he hr htl hrl
        cases hbl : belowB e.path p
        · have HBl := hide hbl
          clear hbl
          have HO := hide (restE_take_in HX.out (show goesE p false e = false from by simp [goesE, HBl.out]))
          obtain ⟨rs, g1, g2, g3⟩ := HG.out
          have G1 := hide g1
          have G2 := hide g2
          have G3 := hide g3
          clear g1 g2 g3 HG
          go_wp2_with (first | (go_at_call 130; refine (l3Below_any _ _ _ (by rw [str_size]; omega) (by rw [str_size]; omega)).mono ?_; rintro r w' ⟨rfl, rfl⟩; rw [str_data, str_data, HBl.out]) | (at_builtin; refine wpList_append_put rfl (.tmp 35) (.tmp 40) 30 rfl w.heap.size 40 i1 (.agg #[.string ⟨#[]⟩, .int .i64 0, .int .i64 0, .slice none 0 0]) 4 56 Tryz.underlying30 ki kz0 kz1 kz2 rfl (by decide) _ _ _ rfl G2.out _ rfl rfl rfl (by intro u hu; simp at hu; rcases hu with rfl | rfl | rfl | rfl <;> rfl) hm1 hm1' (by omega) ?_; intro av3 cv3 w3 hown2 hkept; have O3 := hide hown2; have K3 := hide hkept; clear hown2 hkept))
          go_roundw
          case rel =>
            refine ⟨j + 1, by omega, by go_num, hide ?_, hide ?_, hide ?_⟩
            · rw [HO.out]
              exact LE.push G1.out rfl G3.out HRc.out O3.out
            · obtain ⟨g5, h5, _⟩ := row_addr O3.out (.inl (by omega))
              exact ⟨g5, by rw [h5]; rfl⟩
            · exact HW.out.trans (K3.out.below (by omega) (fun k hk hx => by have := (G2.out.lt k hx).1; omega))
          case measure => simp [intOf]; omega
        · have HBl := hide hbl
          clear hbl
          have HO := hide (restE_take_out HX.out (show goesE p false e = true from by simp [goesE, HBl.out]))
          go_wp2_with (go_at_call 130; refine (l3Below_any _ _ _ (by rw [str_size]; omega) (by rw [str_size]; omega)).mono ?_; rintro r w' ⟨rfl, rfl⟩; rw [str_data, str_data, HBl.out])
          go_roundw
          case rel => exact ⟨j + 1, by omega, by go_num, hide (by rw [HO.out]; exact HG.out), HOb, HW⟩
          case measure => simp [intOf]; omega
      · have hE : es.take j = es := List.take_of_length_le (by omega)
        rw [hE] at HG hrl htl ⊢
        clear hE
        have HC := hide (l4Copy_any lv lc (restE es p false).length (restE es p false) wr ((HG.out.se HW.out).rd) rfl (by omega) (restE_small HS.out p false))
        clear HG hrl htl
        go_wp2_with fail
        refine HC.out.mono ?_
        rintro r w3 ⟨g, cv, rfl, hcv, hG, hb3⟩
        have GG := hide (hG.mono hsz)
        have B3 := hide (below_next HW.out hb3)
        clear hG hb3
        go_wp2_with fail
        go_ret
        exact ⟨_, _, rfl, GG.out, B3.out⟩
  case true =>
    go_enter Tryz.func147, Tryz.ntmps147
    go_wp2_with fail
    go_loopw [7, 8] (fun v i wr => ∃ j : Nat, j ≤ es.length ∧ i = .int .i64 j ∧ Hid (LE w wr v (restE (es.take j) p true)) ∧ Hid (∃ g, v.ownBlock = some g) ∧ Hid (Below w.heap.size w wr)) (fun _ i _ => es.length - (intOf i).toNat)
    case atStart => exact ⟨0, Nat.zero_le _, rfl, hide (LE.made w), hide ⟨_, rfl⟩, hide (below_alloc _ _)⟩
    case round =>
      obtain ⟨j, hj, rfl, HG, HOb, HW⟩ := hrel
      obtain ⟨lv, lc, rfl⟩ := HG.out.shape
      have hrl := restE_len (es.take j) p true
      have htl := take_len hj
      have hsz := HW.out.size
      by_cases hlt : j < es.length
      · obtain ⟨b, off, e, x, cc, rfl, hb, he, c0, c1, c2, c3, hr⟩ := HA.out.at hlt
        have HX := hide he
        have HRc := hide hr
        have hsm := HS.out e (List.mem_of_getElem? he)
        have c0 := (HW.out.cell (p := ⟨b, off + j * 4, none⟩) hb).trans c0
        have c1 := (HW.out.cell (p := ⟨b, off + j * 4 + 1, none⟩) hb).trans c1
        have c2 := (HW.out.cell (p := ⟨b, off + j * 4 + 2, none⟩) hb).trans c2
        have c3 := (HW.out.cell (p := ⟨b, off + j * 4 + 3, none⟩) hb).trans c3
        have hm1 : (restE (es.take j) p true).length + 1 ≤ maxLen := by unfold maxLen; omega
        have hm1' : ((restE (es.take j) p true).length + 1) * 56 ≤ 140737488355328 := by omega
        clear he hr htl hrl
        cases hbl : belowB e.path p
        · have HBl := hide hbl
          clear hbl
          by_cases hq : e.path = p
          · have hq2 := str_yes hq
            have HQ := hide hq
            clear hq
            have HO := hide (restE_take_out HX.out (show goesE p true e = true from by simp [goesE, HQ.out]))
            go_wp2_with (go_at_call 130; refine (l3Below_any _ _ _ (by rw [str_size]; omega) (by rw [str_size]; omega)).mono ?_; rintro r w' ⟨rfl, rfl⟩; rw [str_data, str_data, HBl.out])
            go_roundw
            case rel => exact ⟨j + 1, by omega, by go_num, hide (by rw [HO.out]; exact HG.out), HOb, HW⟩
            case measure => simp [intOf]; omega
          · have hq2 := str_no hq
            have HQ := hide hq
            clear hq
            have HO := hide (restE_take_in HX.out (show goesE p true e = false from by simp [goesE, HBl.out]; exact HQ.out))
            obtain ⟨rs, g1, g2, g3⟩ := HG.out
            have G1 := hide g1
            have G2 := hide g2
            have G3 := hide g3
            clear g1 g2 g3 HG
            go_wp2_with (first | (go_at_call 130; refine (l3Below_any _ _ _ (by rw [str_size]; omega) (by rw [str_size]; omega)).mono ?_; rintro r w' ⟨rfl, rfl⟩; rw [str_data, str_data, HBl.out]) | (at_builtin; refine wpList_append_put rfl (.tmp 35) (.tmp 40) 30 rfl w.heap.size 40 i1 (.agg #[.string ⟨#[]⟩, .int .i64 0, .int .i64 0, .slice none 0 0]) 4 56 Tryz.underlying30 ki kz0 kz1 kz2 rfl (by decide) _ _ _ rfl G2.out _ rfl rfl rfl (by intro u hu; simp at hu; rcases hu with rfl | rfl | rfl | rfl <;> rfl) hm1 hm1' (by omega) ?_; intro av3 cv3 w3 hown2 hkept; have O3 := hide hown2; have K3 := hide hkept; clear hown2 hkept))
            go_roundw
            case rel =>
              refine ⟨j + 1, by omega, by go_num, hide ?_, hide ?_, hide ?_⟩
              · rw [HO.out]
                exact LE.push G1.out rfl G3.out HRc.out O3.out
              · obtain ⟨g5, h5, _⟩ := row_addr O3.out (.inl (by omega))
                exact ⟨g5, by rw [h5]; rfl⟩
              · exact HW.out.trans (K3.out.below (by omega) (fun k hk hx => by have := (G2.out.lt k hx).1; omega))
            case measure => simp [intOf]; omega
        · have HBl := hide hbl
          clear hbl
          have HO := hide (restE_take_out HX.out (show goesE p true e = true from by simp [goesE, HBl.out]))
          go_wp2_with (go_at_call 130; refine (l3Below_any _ _ _ (by rw [str_size]; omega) (by rw [str_size]; omega)).mono ?_; rintro r w' ⟨rfl, rfl⟩; rw [str_data, str_data, HBl.out])
          go_roundw
          case rel => exact ⟨j + 1, by omega, by go_num, hide (by rw [HO.out]; exact HG.out), HOb, HW⟩
          case measure => simp [intOf]; omega
      · have hE : es.take j = es := List.take_of_length_le (by omega)
        rw [hE] at HG hrl htl ⊢
        clear hE
        have HC := hide (l4Copy_any lv lc (restE es p true).length (restE es p true) wr ((HG.out.se HW.out).rd) rfl (by omega) (restE_small HS.out p true))
        clear HG hrl htl
        go_wp2_with fail
        refine HC.out.mono ?_
        rintro r w3 ⟨g, cv, rfl, hcv, hG, hb3⟩
        have GG := hide (hG.mono hsz)
        have B3 := hide (below_next HW.out hb3)
        clear hG hb3
        go_wp2_with fail
        go_ret
        exact ⟨_, _, rfl, GG.out, B3.out⟩

/-- What DropBelow answers. -/
def dropList (es : List En) (p : Bs) : List En := if askE es p = 0 then restE es p true else []

end Go.Proofs.YtjkmbicedbdifaaGreat

namespace Go.Proofs.YtjkmbicedbdifaaGreat
open Go.RowKit Go.Maps
set_option linter.unusedVariables false
attribute [local go_sem ↓] Go.wp_at_zero Go.wp_at_succ

/-- Does an entry stay where another is put? -/
def keepE (e x : En) : Bool := !(decide (x.path = e.path)) && (dirK e.kind || !(belowB x.path e.path))
def baseE (es : List En) (e : En) : List En := es.filter (keepE e)
theorem baseE_in {es : List En} {e x : En} {k : Nat} (he : es[k]? = some x) (h : keepE e x = true) : baseE (es.take (k + 1)) e = baseE (es.take k) e ++ [x] := by
  rw [take_snoc_at he]; simp [baseE, h]
theorem baseE_out {es : List En} {e x : En} {k : Nat} (he : es[k]? = some x) (h : keepE e x = false) : baseE (es.take (k + 1)) e = baseE (es.take k) e := by
  rw [take_snoc_at he]; simp [baseE, h]
theorem baseE_len (es : List En) (e : En) : (baseE es e).length ≤ es.length := List.length_filter_le _ _
theorem baseE_small {es : List En} (h : SmallE es) (e : En) : SmallE (baseE es e) := fun x hx => h x (List.mem_filter.1 hx).1
/-- How many of a list's first paths lie under a path. -/
def lowN (es : List En) (p : Bs) : Nat := (es.takeWhile fun x => Op.bytesLess x.path p).length
def putAt (rs : List En) (e : En) : List En := rs.take (lowN rs e.path) ++ e :: rs.drop (lowN rs e.path)
/-- A layer with an entry put into it. -/
def putE (es : List En) (e : En) : List En := putAt (baseE es e) e

theorem lowN_at {bs : List En} {p : Bs} {k : Nat} (hk : k ≤ bs.length) (h1 : (bs.take k).all (fun x => Op.bytesLess x.path p) = true) (h2 : ∀ y, bs[k]? = some y → Op.bytesLess y.path p = false) : lowN bs p = k := by
  have e : bs = bs.take k ++ bs.drop k := (List.take_append_drop k bs).symm
  have hd : (bs.drop k).takeWhile (fun x => Op.bytesLess x.path p) = [] := by
    cases hx : bs.drop k with
    | nil => rfl
    | cons y r =>
      have : bs[k]? = some y := by
        have h3 := congrArg (fun l => l[0]?) hx
        simpa using h3
      simp [h2 y this]
  unfold lowN
  conv => lhs; rw [e]
  rw [List.takeWhile_append_of_pos (by intro x hx; exact List.all_eq_true.1 h1 x hx), hd, List.append_nil, List.length_take]
  omega
/-- append(out, x...): out owned, x a row that is known. -/
theorem wpList_append_list {P : Program} {w : World} {ops : Array Oper} {rest : List Oper} {o : Oper} {a : Act} {Q : Exit → Act → World → Prop} (hgd : o.guard = none) (s x : Operand) (t : TypeId)
    (ho : o.op = .call { callee := .builtin .append, args := #[s, x], argTypes := #[t, t] })
    (base : Nat) (e : TypeId) (i : TypeInfo) (z : Value) (size bytes : Nat) (ht : P.underlying t = some (.slice e)) (hi : P.info? e = some i) (hz : i.zero = some z)
    (hsize : i.size = size) (hby : i.bytes = bytes) (hzs : z.cells.size = size) (hsz : 0 < size)
    (v : Value) (n : Nat) (xs : List Value) (hs : a.eval s = v) (hown : w.ownsRow base e size v n xs)
    (ad : Addr) (m c : Nat) (news : List Value) (hx : a.eval x = .slice (some ad) m c) (hl : news.length = m * size) (hnews : ∀ j u, news[j]? = some u → w.cell? (ad.add j) = some u) (h1 : ∀ u ∈ news, u.oneCell' = true)
    (N : Nat) (hN : n + m = N) (h63 : n + m ≤ maxLen) (hbytes : (n + m) * bytes ≤ 140737488355328) (hbase : base ≤ w.heap.size)
    (h : ∀ av cv w', w'.ownsRow base e size (.slice av N cv) N (xs ++ news) → Kept (fun b => v.ownBlock = some b) w w' → wpList P ops Q rest (a.put o.dst (.slice av N cv)) w') :
    wpList P ops Q (o :: rest) a w := by
  refine wpList_append_own w hgd s x t ho base e i z size bytes ht hi hz hsize hby hzs hsz v n xs hs hown ad m c news hx hl hnews h1 h63 hbytes hbase fun v' w' h2 h3 _ => ?_
  rw [hN] at h2
  obtain ⟨av, cv, rfl⟩ := ownsRow_shape h2
  exact h av cv w' h2 ⟨h3.os, h3.tape, h3.output, h3.size, fun q hq hn => h3.block q hq (fun e => hn e.symm)⟩
/-- append at a step of a region that draws its order. -/
theorem step_append_list {P : Program} {w : World} {ops : Array Oper} {o : Oper} {a : Act} {K : Act → World → Prop} {Q : Exit → Act → World → Prop} {E : Prop} (hgd : o.guard = none) (s x : Operand) (t : TypeId)
    (ho : o.op = .call { callee := .builtin .append, args := #[s, x], argTypes := #[t, t] })
    (base : Nat) (e : TypeId) (i : TypeInfo) (z : Value) (size bytes : Nat) (ht : P.underlying t = some (.slice e)) (hi : P.info? e = some i) (hz : i.zero = some z)
    (hsize : i.size = size) (hby : i.bytes = bytes) (hzs : z.cells.size = size) (hsz : 0 < size)
    (v : Value) (n : Nat) (xs : List Value) (hs : a.eval s = v) (hown : w.ownsRow base e size v n xs)
    (ad : Addr) (m c : Nat) (news : List Value) (hx : a.eval x = .slice (some ad) m c) (hl : news.length = m * size) (hnews : ∀ j u, news[j]? = some u → w.cell? (ad.add j) = some u) (h1 : ∀ u ∈ news, u.oneCell' = true)
    (N : Nat) (hN : n + m = N) (h63 : n + m ≤ maxLen) (hbytes : (n + m) * bytes ≤ 140737488355328) (hbase : base ≤ w.heap.size)
    (h : ∀ av cv w', w'.ownsRow base e size (.slice av N cv) N (xs ++ news) → Kept (fun b => v.ownBlock = some b) w w' → K (a.put o.dst (.slice av N cv)) w') :
    if Region.wanted o (yielded ops a.tmps) = true then Oper.wp P o a w K Q else E := by
  have hw : Region.wanted o (yielded ops a.tmps) = true := by simp [Region.wanted, hgd]
  rw [if_pos hw]
  refine wp_append_own w s x t ho base e i z size bytes ht hi hz hsize hby hzs hsz v n xs hs hown ad m c news hx hl hnews h1 h63 hbytes hbase fun v' w' h2 h3 _ => ?_
  rw [hN] at h2
  obtain ⟨av, cv, rfl⟩ := ownsRow_shape h2
  exact h av cv w' h2 ⟨h3.os, h3.tape, h3.output, h3.size, fun q hq hn => h3.block q hq (fun e => hn e.symm)⟩
theorem add_addr (b o j : Nat) : (⟨b, o, none⟩ : Addr).add j = ⟨b, o + j, none⟩ := by unfold Addr.add; split <;> simp_all
/-- The cells of a row's entries from place k on. -/
theorem row_news {w w' : World} {B g n c k : Nat} {rs : List Rw} (h : w.ownsRow B 40 4 (.slice (some ⟨g, 0, none⟩) n c) n (rowR rs)) (hb : Below w.heap.size w w') (l : List Value) (hl : ∀ j u, l[j]? = some u → (rowR rs)[k * 4 + j]? = some u) : ∀ j u, l[j]? = some u → w'.cell? ((⟨g, k * 4, none⟩ : Addr).add j) = some u := by
  intro j u hj
  rw [add_addr]
  have h1 := hl j u hj
  have hlt : k * 4 + j < (rowR rs).length := (List.getElem?_eq_some_iff.1 h1).1
  rw [hb.cell (p := ⟨g, k * 4 + j, none⟩) (h.lt g rfl).2]
  rcases h.2 with ⟨h', _⟩ | ⟨g', cap, cur, h', hb', hh, hnc, hcm, hcs, htake⟩
  · simp at h'
  · have hlen := h.1
    rw [h.cellAt (k * 4 + j) (by rw [hlen] at hlt; exact hlt)]
    exact h1
theorem put_rows {w0 w5 : World} {B : Nat} {rs : List Rw} {bs : List En} {e : En} {x : Option Addr} {cc k n : Nat} {v : Value} (g1 : rs.map Rw.e = bs) (hk : k ≤ bs.length) (hn : n = bs.length + 1)
    (g3 : ∀ r ∈ rs, Reads .i64 w0 r.a r.e.chunks) (hx : Reads .i64 w0 x e.chunks) (hb : Below w0.heap.size w0 w5)
    (ho : w5.ownsRow B 40 4 v n ((([] ++ rowR (rs.take k)) ++ cellsR ⟨e, x, cc⟩) ++ rowR (rs.drop k))) : SE B w5 v (bs.take k ++ e :: bs.drop k) := by
  subst hn
  refine ⟨rs.take k ++ ⟨e, x, cc⟩ :: rs.drop k, ?_, ?_, fun r hr => ?_⟩
  · rw [List.map_append, List.map_cons, List.map_take, List.map_drop, g1]
  · have e1 : (bs.take k ++ e :: bs.drop k).length = bs.length + 1 := by simp; omega
    rw [e1]
    have e2 : rowR (rs.take k ++ ⟨e, x, cc⟩ :: rs.drop k) = (([] ++ rowR (rs.take k)) ++ cellsR ⟨e, x, cc⟩) ++ rowR (rs.drop k) := by
      rw [rowR_append]; simp [rowR]
    rw [e2]
    exact ho
  · rcases List.mem_append.1 hr with hr | hr
    · exact (g3 r (List.mem_of_mem_take hr)).below hb
    · rcases List.mem_cons.1 hr with rfl | hr
      · exact hx.below hb
      · exact (g3 r (List.mem_of_mem_drop hr)).below hb
theorem news_four {w : World} {H : Nat} {u0 u1 u2 u3 : Value} {t : TypeId} (hH : w.heap.size = H) : ∀ j x, [u0, u1, u2, u3][j]? = some x → (w.alloc (.cells #[u0, u1, u2, u3] t)).cell? ((⟨H, 0, none⟩ : Addr).add j) = some x := by
  subst hH
  intro j x hj
  rw [add_addr, Nat.zero_add, cell_of_row _ w.heap.size j #[u0, u1, u2, u3] t (0, 0) (heap_alloc_new w _)]
  simpa using hj
theorem LE.drewN {w0 w : World} {v : Value} {es : List En} (h : LE w0 w v es) (n : Nat) : LE w0 (w.drewN n) v es := by
  obtain ⟨rs, he, h1, h2⟩ := h
  exact ⟨rs, he, ownsRow_below h1 (below_drewN (Below.refl _ _) n), h2⟩

set_option maxRecDepth 100000 in
set_option maxHeartbeats 3200000 in
theorem l4Put_any (a : Option Addr) (c n : Nat) (es : List En) (e : En) (x : Option Addr) (m cc : Nat) (w : World) (h : RdE w a es) (hn : n = es.length) (hl : es.length < 1048576) (hs : SmallE es) (hm : m = e.chunks.length) (hr : Reads .i64 w x e.chunks) (hp : e.path.length ≤ 1048576) (hcl : e.chunks.length ≤ 1048576) :
    Calls Tryz.prog 94 #[.slice a n c, .agg #[.string (str e.path), .int .i64 e.kind, .int .i64 e.size, .slice x m cc]] w fun r w' => ∃ g cv, r = .returned (.slice (some ⟨g, 0, none⟩) (putE es e).length cv) ∧ GE w.heap.size w'.heap.size w' (.slice (some ⟨g, 0, none⟩) (putE es e).length cv) (putE es e) ∧ Below w.heap.size w w' := by
  subst hn
  subst hm
  obtain ⟨i1, ki, kz0, kz1, kz2⟩ := info_parts Tryz.infoEn
  have HS := hide hs
  go_enter Tryz.func94, Tryz.ntmps94
  go_wp2_with fail
  have B0 := hide (below_alloc w (.cells #[.string (str e.path), .int .i64 e.kind, .int .i64 e.size, .slice x e.chunks.length cc] 40))
  have F0 := hide (Four.new w (.string (str e.path)) (.int .i64 e.kind) (.int .i64 e.size) (.slice x e.chunks.length cc) 40)
  have HA := hide (h.below B0.out)
  have HRx := hide (hr.below B0.out)
  have HM := hide (LE.made (w.alloc (.cells #[.string (str e.path), .int .i64 e.kind, .int .i64 e.size, .slice x e.chunks.length cc] 40)))
  have hsz0 : (w.alloc (.cells #[.string (str e.path), .int .i64 e.kind, .int .i64 e.size, .slice x e.chunks.length cc] 40)).heap.size = w.heap.size + 1 := by simp
  rw [hsz0] at HM
  have hlt0 := F0.out.lt
  generalize w.alloc (.cells #[.string (str e.path), .int .i64 e.kind, .int .i64 e.size, .slice x e.chunks.length cc] 40) = w0 at *
  have HW0 := hide (show w.heap.size ≤ w0.heap.size by omega)
  have HZ0 := hide hsz0
  clear h hs hr
  have hw1 : w.heap.size + 1 = w0.heap.size := hsz0.symm
  clear hsz0
  rw [hw1] at HM ⊢
  clear hw1
  generalize w.heap.size = bk at F0 hlt0 ⊢
  go_loopw [5, 6] (fun v i wr => ∃ j : Nat, j ≤ es.length ∧ i = .int .i64 j ∧ Hid (LE w0 wr v (baseE (es.take j) e)) ∧ Hid (∃ g, v.ownBlock = some g) ∧ Hid (Below w0.heap.size w0 wr)) (fun _ i _ => es.length - (intOf i).toNat)
  case atStart => exact ⟨0, Nat.zero_le _, rfl, HM, hide ⟨_, rfl⟩, hide (below_alloc _ _)⟩
  case round =>
    obtain ⟨j, hj, rfl, HG, HOb, HW⟩ := hrel
    obtain ⟨lv, lc, rfl⟩ := HG.out.shape
    have hrl := baseE_len (es.take j) e
    have htl := take_len hj
    have hsz := HW.out.size
    have F1 := (HW.out.cell (p := ⟨bk, 0 + 1, none⟩) hlt0).trans F0.out.2.1
    have F2 := (HW.out.cell (p := ⟨bk, 0, none⟩) hlt0).trans F0.out.1
    by_cases hlt : j < es.length
    · obtain ⟨b, off, y, xx, c2, rfl, hb, he, c0, c1, c2, c3, hr⟩ := HA.out.at hlt
      have HX := hide he
      have HRc := hide hr
      have hsm := HS.out y (List.mem_of_getElem? he)
      have HD := hide (And.intro c0 (And.intro c1 (And.intro c2 c3)))
      have c0 := (HW.out.cell (p := ⟨b, off + j * 4, none⟩) hb).trans c0
      have c1 := (HW.out.cell (p := ⟨b, off + j * 4 + 1, none⟩) hb).trans c1
      have c2 := (HW.out.cell (p := ⟨b, off + j * 4 + 2, none⟩) hb).trans c2
      have c3 := (HW.out.cell (p := ⟨b, off + j * 4 + 3, none⟩) hb).trans c3
      have hm1 : (baseE (es.take j) e).length + 1 ≤ maxLen := by unfold maxLen; omega
      have hm1' : ((baseE (es.take j) e).length + 1) * 56 ≤ 140737488355328 := by omega
      clear he hr htl hrl
      by_cases hq : y.path = e.path
      · have hq2 := str_yes hq
        have HO := hide (baseE_out HX.out (show keepE e y = false from by simp [keepE, hq]))
        clear hq
        go_wp2_with fail
        go_quiet (first | (go_at_call 93; refine Calls.quiet_of ((l4IsDir_any bk 0 e.kind _ ?_).mono (fun r w' ⟨he, hw⟩ => ⟨by rw [HDk.out] at he; exact he, 0, hw⟩)); exact F1) | (go_at_call 130; exact Calls.quiet_of ((l3Below_any _ _ _ (by rw [str_size]; omega) (by rw [str_size]; omega)).mono (fun r w' ⟨he, hw⟩ => ⟨by rw [str_data, str_data, HBl.out] at he; exact he, 0, hw⟩))))
        go_wp2_with fail
        go_roundw
        case rel => exact ⟨j + 1, by omega, by go_num, hide (by rw [HO.out]; exact HG.out.drewN nq), HOb, hide (below_drewN HW.out nq)⟩
        case measure => simp [intOf]; omega
      · have hq2 := str_no hq
        cases hd : dirK e.kind
        · cases hbl : belowB y.path e.path
          · have HO := hide (baseE_in HX.out (show keepE e y = true from by simp [keepE, hq, hd, hbl]))
            have HDk := hide hd
            have HBl := hide hbl
            clear hq hd hbl
            go_wp2_with fail
            go_quiet (first | (go_at_call 93; refine Calls.quiet_of ((l4IsDir_any bk 0 e.kind _ ?_).mono (fun r w' ⟨he, hw⟩ => ⟨by rw [HDk.out] at he; exact he, 0, hw⟩)); exact F1) | (go_at_call 130; exact Calls.quiet_of ((l3Below_any _ _ _ (by rw [str_size]; omega) (by rw [str_size]; omega)).mono (fun r w' ⟨he, hw⟩ => ⟨by rw [str_data, str_data, HBl.out] at he; exact he, 0, hw⟩))))
            have HW2 := hide (below_drewN HW.out nq)
            have HG2 := hide (HG.out.drewN nq)
            clear HG c0 c1 c2 c3 F1 F2
            generalize wr.drewN nq = W at HW2 HG2 ⊢
            obtain ⟨d0, d1, d2, d3⟩ := HD.out
            have c0 := (HW2.out.cell (p := ⟨b, off + j * 4, none⟩) hb).trans d0
            have c1 := (HW2.out.cell (p := ⟨b, off + j * 4 + 1, none⟩) hb).trans d1
            have c2 := (HW2.out.cell (p := ⟨b, off + j * 4 + 2, none⟩) hb).trans d2
            have c3 := (HW2.out.cell (p := ⟨b, off + j * 4 + 3, none⟩) hb).trans d3
            have hsz2 := HW2.out.size
            obtain ⟨rs, g1, g2, g3⟩ := HG2.out
            have G1 := hide g1
            have G2 := hide g2
            have G3 := hide g3
            clear g1 g2 g3 HG2 d0 d1 d2 d3
            go_wp2_with (at_builtin; refine wpList_append_put rfl (.tmp 38) (.tmp 43) 30 rfl w0.heap.size 40 i1 (.agg #[.string ⟨#[]⟩, .int .i64 0, .int .i64 0, .slice none 0 0]) 4 56 Tryz.underlying30 ki kz0 kz1 kz2 rfl (by decide) _ _ _ rfl G2.out _ rfl rfl rfl (by intro u hu; simp at hu; rcases hu with rfl | rfl | rfl | rfl <;> rfl) hm1 hm1' (by omega) ?_; intro av3 cv3 w3 hown2 hkept; have O3 := hide hown2; have K3 := hide hkept; clear hown2 hkept)
            go_roundw
            case rel =>
              refine ⟨j + 1, by omega, by go_num, hide ?_, hide ?_, hide ?_⟩
              · rw [HO.out]
                exact LE.push G1.out rfl G3.out HRc.out O3.out
              · obtain ⟨g5, h5, _⟩ := row_addr O3.out (.inl (by omega))
                exact ⟨g5, by rw [h5]; rfl⟩
              · exact HW2.out.trans (K3.out.below (by omega) (fun k hk hx => by have := (G2.out.lt k hx).1; omega))
            case measure => simp [intOf]; omega
          · have HO := hide (baseE_out HX.out (show keepE e y = false from by simp [keepE, hq, hd, hbl]))
            have HDk := hide hd
            have HBl := hide hbl
            clear hq hd hbl
            go_wp2_with fail
            go_quiet (first | (go_at_call 93; refine Calls.quiet_of ((l4IsDir_any bk 0 e.kind _ ?_).mono (fun r w' ⟨he, hw⟩ => ⟨by rw [HDk.out] at he; exact he, 0, hw⟩)); exact F1) | (go_at_call 130; exact Calls.quiet_of ((l3Below_any _ _ _ (by rw [str_size]; omega) (by rw [str_size]; omega)).mono (fun r w' ⟨he, hw⟩ => ⟨by rw [str_data, str_data, HBl.out] at he; exact he, 0, hw⟩))))
            go_wp2_with fail
            go_roundw
            case rel => exact ⟨j + 1, by omega, by go_num, hide (by rw [HO.out]; exact HG.out.drewN nq), HOb, hide (below_drewN HW.out nq)⟩
            case measure => simp [intOf]; omega
        · have HO := hide (baseE_in HX.out (show keepE e y = true from by simp [keepE, hq, hd]))
          have HDk := hide hd
          clear hq hd
          go_wp2_with fail
          go_quiet (first | (go_at_call 93; refine Calls.quiet_of ((l4IsDir_any bk 0 e.kind _ ?_).mono (fun r w' ⟨he, hw⟩ => ⟨by rw [HDk.out] at he; exact he, 0, hw⟩)); exact F1) | (go_at_call 130; exact Calls.quiet_of ((l3Below_any _ _ _ (by rw [str_size]; omega) (by rw [str_size]; omega)).mono (fun r w' ⟨he, hw⟩ => ⟨by rw [str_data, str_data, HBl.out] at he; exact he, 0, hw⟩))))
          have HW2 := hide (below_drewN HW.out nq)
          have HG2 := hide (HG.out.drewN nq)
          clear HG c0 c1 c2 c3 F1 F2
          generalize wr.drewN nq = W at HW2 HG2 ⊢
          obtain ⟨d0, d1, d2, d3⟩ := HD.out
          have c0 := (HW2.out.cell (p := ⟨b, off + j * 4, none⟩) hb).trans d0
          have c1 := (HW2.out.cell (p := ⟨b, off + j * 4 + 1, none⟩) hb).trans d1
          have c2 := (HW2.out.cell (p := ⟨b, off + j * 4 + 2, none⟩) hb).trans d2
          have c3 := (HW2.out.cell (p := ⟨b, off + j * 4 + 3, none⟩) hb).trans d3
          have hsz2 := HW2.out.size
          obtain ⟨rs, g1, g2, g3⟩ := HG2.out
          have G1 := hide g1
          have G2 := hide g2
          have G3 := hide g3
          clear g1 g2 g3 HG2 d0 d1 d2 d3
          go_wp2_with (at_builtin; refine wpList_append_put rfl (.tmp 38) (.tmp 43) 30 rfl w0.heap.size 40 i1 (.agg #[.string ⟨#[]⟩, .int .i64 0, .int .i64 0, .slice none 0 0]) 4 56 Tryz.underlying30 ki kz0 kz1 kz2 rfl (by decide) _ _ _ rfl G2.out _ rfl rfl rfl (by intro u hu; simp at hu; rcases hu with rfl | rfl | rfl | rfl <;> rfl) hm1 hm1' (by omega) ?_; intro av3 cv3 w3 hown2 hkept; have O3 := hide hown2; have K3 := hide hkept; clear hown2 hkept)
          go_roundw
          case rel =>
            refine ⟨j + 1, by omega, by go_num, hide ?_, hide ?_, hide ?_⟩
            · rw [HO.out]
              exact LE.push G1.out rfl G3.out HRc.out O3.out
            · obtain ⟨g5, h5, _⟩ := row_addr O3.out (.inl (by omega))
              exact ⟨g5, by rw [h5]; rfl⟩
            · exact HW2.out.trans (K3.out.below (by omega) (fun k hk hx => by have := (G2.out.lt k hx).1; omega))
          case measure => simp [intOf]; omega
    · have hE : es.take j = es := List.take_of_length_le (by omega)
      rw [hE] at HG HOb hrl htl ⊢
      clear hE
      have HBS := hide (baseE_small HS.out e)
      have hbl : (baseE es e).length < 1048576 := by omega
      have HPU := hide (show putE es e = putAt (baseE es e) e from rfl)
      generalize baseE es e = bs at *
      obtain ⟨g5, h5, h6⟩ : ∃ g, lv = some ⟨g, 0, none⟩ ∧ bs.length ≤ lc := by
        obtain ⟨rs, _, h1, _⟩ := HG.out
        exact row_addr h1 (.inr HOb.out)
      subst h5
      have HRd := hide ((HG.out.se HW.out).rd)
      clear hrl htl
      go_wp2_with fail
      obtain ⟨W1, hW1⟩ : ∃ W1, W1 = wr := ⟨_, rfl⟩
      subst hW1
      have hlt1 : bk < W1.heap.size := by omega
      go_loopw [7] (fun i w2 => ∃ k : Nat, k ≤ bs.length ∧ i = .int .i64 k ∧ Hid ((bs.take k).all (fun x => Op.bytesLess x.path e.path) = true) ∧ Hid (Below W1.heap.size W1 w2)) (fun i _ => bs.length - (intOf i).toNat)
      case atStart => exact ⟨0, Nat.zero_le _, rfl, hide (by simp), hide (Below.refl _ _)⟩
      case round =>
        obtain ⟨k, hk, rfl, HL, HW2⟩ := hrel
        have F3 := (HW2.out.cell (p := ⟨bk, 0, none⟩) hlt1).trans F2
        by_cases hlt : k < bs.length
        · obtain ⟨b, off, y, xx, c2, hbb, hb, he, c0, c1, c2, c3, hr⟩ := HRd.out.at hlt
          simp only [Option.some.injEq, Addr.mk.injEq, and_true] at hbb
          obtain ⟨rfl, rfl⟩ := hbb
          have c0 := (HW2.out.cell (p := ⟨g5, 0 + k * 4, none⟩) hb).trans c0
          rw [Nat.zero_add] at c0
          have HX := hide he
          clear he hr c1 c2 c3
          cases hlo : Op.bytesLess (str y.path).toList (str e.path).toList
          · have HLk := hide (lowN_at hk HL.out (fun y' hy' => by rw [HX.out] at hy'; cases hy'; rw [str_toList, str_toList] at hlo; exact hlo))
            go_wp2_with fail
            go_quiet (fail)
            have HWk := hide (below_drewN HW2.out nq)
            clear c0 HW2 F3
            generalize wr.drewN nq = W2 at HWk ⊢
            have HPU2 : Hid (putE es e = bs.take k ++ e :: bs.drop k) := by have := HPU.out; unfold putAt at this; rw [HLk.out] at this; exact this
            obtain ⟨rs, g1, g2, g3⟩ := HG.out
            have G1 := hide g1
            have G2 := hide g2
            have G3 := hide g3
            have hrsl : rs.length = bs.length := by rw [← g1, List.length_map]
            clear g1 g2 g3 HG HRd
            have hsW := HWk.out.size
            have OWN0 : Hid ((W2.alloc (.cells #[] 40)).ownsRow W2.heap.size 40 4 (.slice (some ⟨W2.heap.size, 0, none⟩) 0 0) 0 []) := World.ownsRow_made W2 #[] 0 (Nat.le_refl _) (Nat.zero_le _) rfl
            have NEWS0 : Hid (∀ j u, (rowR (rs.take k))[j]? = some u → (W2.alloc (.cells #[] 40)).cell? ((⟨g5, 0, none⟩ : Addr).add j) = some u) := hide (by
              have := row_news (k := 0) G2.out (below_next HWk.out (below_alloc W2 (.cells #[] 40))) (rowR (rs.take k)) (fun j u hj => by
                rw [← rowR_take] at hj
                rw [Nat.zero_mul, Nat.zero_add]
                rw [List.getElem?_take] at hj
                split at hj
                · exact hj
                · cases hj)
              simpa using this)
            have hln0 : (rowR (rs.take k)).length = k * 4 := by rw [rowR_length, List.length_take]; congr 1; omega
            have hm0 : 0 + k ≤ maxLen := by unfold maxLen; omega
            have hm0' : (0 + k) * 56 ≤ 140737488355328 := by omega
            have hkc : (k : Int) ≤ (lc : Int) := by omega
            go_wp2_with (at_builtin; refine wpList_append_list rfl (.tmp 61) (.tmp 64) 30 rfl W2.heap.size 40 i1 (.agg #[.string ⟨#[]⟩, .int .i64 0, .int .i64 0, .slice none 0 0]) 4 56 Tryz.underlying30 ki kz0 kz1 kz2 rfl (by decide) (.slice (some ⟨W2.heap.size, 0, none⟩) 0 0) 0 [] rfl OWN0.out ⟨g5, 0, none⟩ k lc (rowR (rs.take k)) rfl hln0 NEWS0.out (rowR_one _) k (by simp) hm0 hm0' (by simp) ?_; intro av3 cv3 w3 hown3 hk3; have O3 := hide hown3; have K3 := hide hk3; clear hown3 hk3)
            have BW3 := hide ((below_alloc W2 (.cells #[] 40)).trans (K3.out.below (by simp) (fun q hq hS => by simp [Value.ownBlock] at hS; omega)))
            have BW2 := hide (below_next HW.out HWk.out)
            have B3 := hide (below_next BW2.out BW3.out)
            have hs3 := BW3.out.size
            have KC : Hid (∀ w5 : World, Below W2.heap.size W2 w5 → w5.cell? ⟨bk, 0, none⟩ = some (.string (str e.path)) ∧ w5.cell? ⟨bk, 1, none⟩ = some (.int .i64 e.kind) ∧ w5.cell? ⟨bk, 2, none⟩ = some (.int .i64 e.size) ∧ w5.cell? ⟨bk, 3, none⟩ = some (.slice x e.chunks.length cc)) := fun w5 hb5 => ⟨((below_next BW2.out hb5).cell (p := ⟨bk, 0, none⟩) hlt0).trans F0.out.1, ((below_next BW2.out hb5).cell (p := ⟨bk, 1, none⟩) hlt0).trans F0.out.2.1, ((below_next BW2.out hb5).cell (p := ⟨bk, 2, none⟩) hlt0).trans F0.out.2.2.1, ((below_next BW2.out hb5).cell (p := ⟨bk, 3, none⟩) hlt0).trans F0.out.2.2.2⟩
            have p0 := (B3.out.cell (p := ⟨bk, 0, none⟩) hlt0).trans F0.out.1
            have p1 := (B3.out.cell (p := ⟨bk, 1, none⟩) hlt0).trans F0.out.2.1
            have p2 := (B3.out.cell (p := ⟨bk, 2, none⟩) hlt0).trans F0.out.2.2.1
            have p3 := (B3.out.cell (p := ⟨bk, 3, none⟩) hlt0).trans F0.out.2.2.2
            have OWN1 : Hid ((w3.alloc (.cells #[.string (str e.path), .int .i64 e.kind, .int .i64 e.size, .slice x e.chunks.length cc] 40)).drew.ownsRow W2.heap.size 40 4 (.slice av3 k cv3) k ([] ++ rowR (rs.take k))) := ownsRow_below O3.out (below_alloc _ _).drew
            have NEWS1 : Hid (∀ j u, (cellsR ⟨e, x, cc⟩)[j]? = some u → (w3.alloc (.cells #[.string (str e.path), .int .i64 e.kind, .int .i64 e.size, .slice x e.chunks.length cc] 40)).drew.cell? ((⟨w3.heap.size, 0, none⟩ : Addr).add j) = some u) := news_four (t := 40) rfl
            have hnl : (rowR (rs.drop k)).length = (bs.length - k) * 4 := by rw [rowR_length, List.length_drop, hrsl]
            have hm1 : k + 1 ≤ maxLen := by unfold maxLen; omega
            have hm1' : (k + 1) * 56 ≤ 140737488355328 := by omega
            have hk1' : k + 1 + (bs.length - k) = bs.length + 1 := by omega
            have hm2 : k + 1 + (bs.length - k) ≤ maxLen := by unfold maxLen; omega
            have hm2' : (k + 1 + (bs.length - k)) * 56 ≤ 140737488355328 := by omega
            have HLn := hide (show bs.length + 1 = (bs.take k ++ e :: bs.drop k).length from by simp; omega)
            have HSm := hide (show SmallE (bs.take k ++ e :: bs.drop k) from fun y hy => by
              rcases List.mem_append.1 hy with hy | hy
              · exact HBS.out y (List.mem_of_mem_take hy)
              · rcases List.mem_cons.1 hy with rfl | hy
                · exact ⟨hp, hcl⟩
                · exact HBS.out y (List.mem_of_mem_drop hy))
            have hkc2 : (k : Int) ≤ (bs.length : Int) := by omega
            have hbc : (bs.length : Int) ≤ (lc : Int) := by omega
            by_cases hck : lc = k
            · exact absurd hck (by omega)
            · have hck2 : ¬ k = lc := fun e => hck e.symm
              have NEWS2 : Hid (∀ w5 : World, Below W2.heap.size W2 w5 → ∀ j u, (rowR (rs.drop k))[j]? = some u → w5.cell? ((⟨g5, k * 4, none⟩ : Addr).add j) = some u) := fun w5 hb5 => row_news (k := k) G2.out (below_next HWk.out hb5) (rowR (rs.drop k)) (fun j u hj => by rw [← rowR_drop, List.getElem?_drop] at hj; exact hj)
              go_region_held3 (fun w' => w'.cell? ⟨bk, 0, none⟩ = some (.string (str e.path)) ∧ w'.cell? ⟨bk, 1, none⟩ = some (.int .i64 e.kind) ∧ w'.cell? ⟨bk, 2, none⟩ = some (.int .i64 e.size) ∧ w'.cell? ⟨bk, 3, none⟩ = some (.slice x e.chunks.length cc)) (first | exact KC.out _ BB4.out | exact KC.out _ BB5.out | exact KC.out _ B6.out | go_keep)
                ((first
                  | (refine step_append_list (by rfl) (.tmp 66) (.tmp 68) 30 (by rfl) W2.heap.size 40 i1 (.agg #[.string ⟨#[]⟩, .int .i64 0, .int .i64 0, .slice none 0 0]) 4 56 Tryz.underlying30 ki kz0 kz1 kz2 rfl (by decide) (.slice av3 k cv3) k ([] ++ rowR (rs.take k)) (by rfl) OWN1.out ⟨w3.heap.size, 0, none⟩ 1 1 (cellsR ⟨e, x, cc⟩) (by rfl) (by rfl) NEWS1.out (rowR_one [⟨e, x, cc⟩]) (k + 1) rfl hm1 hm1' (by simp; omega) ?_; intro av4 cv4 w4 hown4 hk4; have O4 := hide hown4; have BB4 := hide (BW3.out.trans ((((Kept.refl (fun q => (Value.slice av3 k cv3).ownBlock = some q) w3).alloc _).drew.trans hk4).below hs3 (fun q hq hS => by have := (O3.out.lt q hS).1; omega))); clear hown4 hk4)
                  | (refine step_append_list (by rfl) (.tmp 69) (.tmp 72) 30 (by rfl) W2.heap.size 40 i1 (.agg #[.string ⟨#[]⟩, .int .i64 0, .int .i64 0, .slice none 0 0]) 4 56 Tryz.underlying30 ki kz0 kz1 kz2 rfl (by decide) (.slice av4 (k + 1) cv4) (k + 1) (([] ++ rowR (rs.take k)) ++ cellsR ⟨e, x, cc⟩) (by rfl) O4.out ⟨g5, k * 4, none⟩ (bs.length - k) (lc - k) (rowR (rs.drop k)) (by rfl) hnl (NEWS2.out w4 BB4.out) (rowR_one _) (bs.length + 1) hk1' hm2 hm2' BB4.out.size ?_; intro av5 cv5 w5 hown5 hk5; have O5 := hide hown5; have BB5 := hide (BB4.out.trans (hk5.below BB4.out.size (fun q hq hS => by have := (O4.out.lt q hS).1; omega))); have RD5 := hide ((put_rows G1.out hk rfl G3.out HRx.out (below_next BW2.out BB5.out) hown5).rd); clear hown5 hk5)
                  | (go_at_call 113; refine (l4Copy_any av5 cv5 (bs.length + 1) _ w5 RD5.out HLn.out (by rw [← HLn.out]; omega) HSm.out).mono ?_; rintro r w6 ⟨g6, cv6, rfl, hcv6, hG6, hb6⟩; have GG6 := hide (hG6.mono BB5.out.size); have B6 := hide (below_next BB5.out hb6); clear hG6 hb6)))
              have hpl : (putE es e).length = bs.length + 1 := by rw [HPU2.out]; exact HLn.out.symm
              have HPL := hide hpl
              clear hpl
              go_wp2_with fail
              go_ret
              have hz0 := HW0.out
              have hz1 := BW2.out.size
              exact ⟨g6, cv6, by rw [HPL.out]; rfl, by rw [HPL.out, HPU2.out]; exact GG6.out.mono (by omega), below_next B0.out (below_next BW2.out B6.out)⟩
          · have HLk := hide (show (bs.take (k + 1)).all (fun x => Op.bytesLess x.path e.path) = true from by
              rw [str_toList, str_toList] at hlo
              rw [take_snoc_at HX.out]; simp only [List.all_append, HL.out, List.all_cons, hlo, List.all_nil, Bool.and_self])
            go_wp2_with fail
            go_quiet (fail)
            go_wp2_with fail
            go_roundw
            case rel => exact ⟨k + 1, by omega, by go_num, HLk, hide (below_drewN HW2.out nq)⟩
            case measure => simp [intOf]; omega
        · have HLk := hide (lowN_at hk HL.out (fun y' hy' => by have := (List.getElem?_eq_some_iff.1 hy').1; omega))
          go_wp2_with fail
          go_quiet (fail)
          have HWk := hide (below_drewN HW2.out nq)
          clear HW2 F3
          generalize wr.drewN nq = W2 at HWk ⊢
          have HPU2 : Hid (putE es e = bs.take k ++ e :: bs.drop k) := by have := HPU.out; unfold putAt at this; rw [HLk.out] at this; exact this
          obtain ⟨rs, g1, g2, g3⟩ := HG.out
          have G1 := hide g1
          have G2 := hide g2
          have G3 := hide g3
          have hrsl : rs.length = bs.length := by rw [← g1, List.length_map]
          clear g1 g2 g3 HG HRd
          have hsW := HWk.out.size
          have OWN0 : Hid ((W2.alloc (.cells #[] 40)).ownsRow W2.heap.size 40 4 (.slice (some ⟨W2.heap.size, 0, none⟩) 0 0) 0 []) := World.ownsRow_made W2 #[] 0 (Nat.le_refl _) (Nat.zero_le _) rfl
          have NEWS0 : Hid (∀ j u, (rowR (rs.take k))[j]? = some u → (W2.alloc (.cells #[] 40)).cell? ((⟨g5, 0, none⟩ : Addr).add j) = some u) := hide (by
            have := row_news (k := 0) G2.out (below_next HWk.out (below_alloc W2 (.cells #[] 40))) (rowR (rs.take k)) (fun j u hj => by
              rw [← rowR_take] at hj
              rw [Nat.zero_mul, Nat.zero_add]
              rw [List.getElem?_take] at hj
              split at hj
              · exact hj
              · cases hj)
            simpa using this)
          have hln0 : (rowR (rs.take k)).length = k * 4 := by rw [rowR_length, List.length_take]; congr 1; omega
          have hm0 : 0 + k ≤ maxLen := by unfold maxLen; omega
          have hm0' : (0 + k) * 56 ≤ 140737488355328 := by omega
          have hkc : (k : Int) ≤ (lc : Int) := by omega
          go_wp2_with (at_builtin; refine wpList_append_list rfl (.tmp 61) (.tmp 64) 30 rfl W2.heap.size 40 i1 (.agg #[.string ⟨#[]⟩, .int .i64 0, .int .i64 0, .slice none 0 0]) 4 56 Tryz.underlying30 ki kz0 kz1 kz2 rfl (by decide) (.slice (some ⟨W2.heap.size, 0, none⟩) 0 0) 0 [] rfl OWN0.out ⟨g5, 0, none⟩ k lc (rowR (rs.take k)) rfl hln0 NEWS0.out (rowR_one _) k (by simp) hm0 hm0' (by simp) ?_; intro av3 cv3 w3 hown3 hk3; have O3 := hide hown3; have K3 := hide hk3; clear hown3 hk3)
          have BW3 := hide ((below_alloc W2 (.cells #[] 40)).trans (K3.out.below (by simp) (fun q hq hS => by simp [Value.ownBlock] at hS; omega)))
          have BW2 := hide (below_next HW.out HWk.out)
          have B3 := hide (below_next BW2.out BW3.out)
          have hs3 := BW3.out.size
          have KC : Hid (∀ w5 : World, Below W2.heap.size W2 w5 → w5.cell? ⟨bk, 0, none⟩ = some (.string (str e.path)) ∧ w5.cell? ⟨bk, 1, none⟩ = some (.int .i64 e.kind) ∧ w5.cell? ⟨bk, 2, none⟩ = some (.int .i64 e.size) ∧ w5.cell? ⟨bk, 3, none⟩ = some (.slice x e.chunks.length cc)) := fun w5 hb5 => ⟨((below_next BW2.out hb5).cell (p := ⟨bk, 0, none⟩) hlt0).trans F0.out.1, ((below_next BW2.out hb5).cell (p := ⟨bk, 1, none⟩) hlt0).trans F0.out.2.1, ((below_next BW2.out hb5).cell (p := ⟨bk, 2, none⟩) hlt0).trans F0.out.2.2.1, ((below_next BW2.out hb5).cell (p := ⟨bk, 3, none⟩) hlt0).trans F0.out.2.2.2⟩
          have p0 := (B3.out.cell (p := ⟨bk, 0, none⟩) hlt0).trans F0.out.1
          have p1 := (B3.out.cell (p := ⟨bk, 1, none⟩) hlt0).trans F0.out.2.1
          have p2 := (B3.out.cell (p := ⟨bk, 2, none⟩) hlt0).trans F0.out.2.2.1
          have p3 := (B3.out.cell (p := ⟨bk, 3, none⟩) hlt0).trans F0.out.2.2.2
          have OWN1 : Hid ((w3.alloc (.cells #[.string (str e.path), .int .i64 e.kind, .int .i64 e.size, .slice x e.chunks.length cc] 40)).drew.ownsRow W2.heap.size 40 4 (.slice av3 k cv3) k ([] ++ rowR (rs.take k))) := ownsRow_below O3.out (below_alloc _ _).drew
          have NEWS1 : Hid (∀ j u, (cellsR ⟨e, x, cc⟩)[j]? = some u → (w3.alloc (.cells #[.string (str e.path), .int .i64 e.kind, .int .i64 e.size, .slice x e.chunks.length cc] 40)).drew.cell? ((⟨w3.heap.size, 0, none⟩ : Addr).add j) = some u) := news_four (t := 40) rfl
          have hnl : (rowR (rs.drop k)).length = (bs.length - k) * 4 := by rw [rowR_length, List.length_drop, hrsl]
          have hm1 : k + 1 ≤ maxLen := by unfold maxLen; omega
          have hm1' : (k + 1) * 56 ≤ 140737488355328 := by omega
          have hk1' : k + 1 + (bs.length - k) = bs.length + 1 := by omega
          have hm2 : k + 1 + (bs.length - k) ≤ maxLen := by unfold maxLen; omega
          have hm2' : (k + 1 + (bs.length - k)) * 56 ≤ 140737488355328 := by omega
          have HLn := hide (show bs.length + 1 = (bs.take k ++ e :: bs.drop k).length from by simp; omega)
          have HSm := hide (show SmallE (bs.take k ++ e :: bs.drop k) from fun y hy => by
            rcases List.mem_append.1 hy with hy | hy
            · exact HBS.out y (List.mem_of_mem_take hy)
            · rcases List.mem_cons.1 hy with rfl | hy
              · exact ⟨hp, hcl⟩
              · exact HBS.out y (List.mem_of_mem_drop hy))
          have hkc2 : (k : Int) ≤ (bs.length : Int) := by omega
          have hbc : (bs.length : Int) ≤ (lc : Int) := by omega
          by_cases hck : lc = k
          · obtain rfl : k = lc := hck.symm
            have hck3 : k = bs.length := by omega
            have hnl0 : (rowR (rs.drop k)).length = 0 * 4 := by rw [rowR_length, List.length_drop, hrsl]; omega
            have hk0 : k + 1 + 0 = bs.length + 1 := by omega
            have hm3 : k + 1 + 0 ≤ maxLen := by omega
            have hm3' : (k + 1 + 0) * 56 ≤ 140737488355328 := by omega
            have HCK := hide hck3
            clear hck3
            have NEWS2 : Hid (∀ w5 : World, Below W2.heap.size W2 w5 → ∀ j u, (rowR (rs.drop k))[j]? = some u → w5.cell? ((⟨g5, 0, none⟩ : Addr).add j) = some u) := fun w5 hb5 j u hj => by rw [← rowR_drop, List.drop_eq_nil_of_le (by rw [rowR_length]; omega)] at hj; simp at hj
            go_region_held3 (fun w' => w'.cell? ⟨bk, 0, none⟩ = some (.string (str e.path)) ∧ w'.cell? ⟨bk, 1, none⟩ = some (.int .i64 e.kind) ∧ w'.cell? ⟨bk, 2, none⟩ = some (.int .i64 e.size) ∧ w'.cell? ⟨bk, 3, none⟩ = some (.slice x e.chunks.length cc)) (first | exact KC.out _ BB4.out | exact KC.out _ BB5.out | exact KC.out _ B6.out | go_keep)
              ((first
                | (refine step_append_list (by rfl) (.tmp 66) (.tmp 68) 30 (by rfl) W2.heap.size 40 i1 (.agg #[.string ⟨#[]⟩, .int .i64 0, .int .i64 0, .slice none 0 0]) 4 56 Tryz.underlying30 ki kz0 kz1 kz2 rfl (by decide) (.slice av3 k cv3) k ([] ++ rowR (rs.take k)) (by rfl) OWN1.out ⟨w3.heap.size, 0, none⟩ 1 1 (cellsR ⟨e, x, cc⟩) (by rfl) (by rfl) NEWS1.out (rowR_one [⟨e, x, cc⟩]) (k + 1) rfl hm1 hm1' (by simp; omega) ?_; intro av4 cv4 w4 hown4 hk4; have O4 := hide hown4; have BB4 := hide (BW3.out.trans ((((Kept.refl (fun q => (Value.slice av3 k cv3).ownBlock = some q) w3).alloc _).drew.trans hk4).below hs3 (fun q hq hS => by have := (O3.out.lt q hS).1; omega))); clear hown4 hk4)
                | (refine step_append_list (by rfl) (.tmp 69) (.tmp 72) 30 (by rfl) W2.heap.size 40 i1 (.agg #[.string ⟨#[]⟩, .int .i64 0, .int .i64 0, .slice none 0 0]) 4 56 Tryz.underlying30 ki kz0 kz1 kz2 rfl (by decide) (.slice av4 (k + 1) cv4) (k + 1) (([] ++ rowR (rs.take k)) ++ cellsR ⟨e, x, cc⟩) (by rfl) O4.out ⟨g5, 0, none⟩ 0 0 (rowR (rs.drop k)) (by rfl) hnl0 (NEWS2.out w4 BB4.out) (rowR_one _) (bs.length + 1) hk0 hm3 hm3' BB4.out.size ?_; intro av5 cv5 w5 hown5 hk5; have O5 := hide hown5; have BB5 := hide (BB4.out.trans (hk5.below BB4.out.size (fun q hq hS => by have := (O4.out.lt q hS).1; omega))); have RD5 := hide ((put_rows G1.out hk rfl G3.out HRx.out (below_next BW2.out BB5.out) hown5).rd); clear hown5 hk5)
                | (go_at_call 113; refine (l4Copy_any av5 cv5 (bs.length + 1) _ w5 RD5.out HLn.out (by rw [← HLn.out]; omega) HSm.out).mono ?_; rintro r w6 ⟨g6, cv6, rfl, hcv6, hG6, hb6⟩; have GG6 := hide (hG6.mono BB5.out.size); have B6 := hide (below_next BB5.out hb6); clear hG6 hb6)))
            have hpl : (putE es e).length = bs.length + 1 := by rw [HPU2.out]; exact HLn.out.symm
            have HPL := hide hpl
            clear hpl
            go_wp2_with fail
            go_ret
            have hz0 := HW0.out
            have hz1 := BW2.out.size
            exact ⟨g6, cv6, by rw [HPL.out]; rfl, by rw [HPL.out, HPU2.out]; exact GG6.out.mono (by omega), below_next B0.out (below_next BW2.out B6.out)⟩
          · have hck2 : ¬ k = lc := fun e => hck e.symm
            have NEWS2 : Hid (∀ w5 : World, Below W2.heap.size W2 w5 → ∀ j u, (rowR (rs.drop k))[j]? = some u → w5.cell? ((⟨g5, k * 4, none⟩ : Addr).add j) = some u) := fun w5 hb5 => row_news (k := k) G2.out (below_next HWk.out hb5) (rowR (rs.drop k)) (fun j u hj => by rw [← rowR_drop, List.getElem?_drop] at hj; exact hj)
            go_region_held3 (fun w' => w'.cell? ⟨bk, 0, none⟩ = some (.string (str e.path)) ∧ w'.cell? ⟨bk, 1, none⟩ = some (.int .i64 e.kind) ∧ w'.cell? ⟨bk, 2, none⟩ = some (.int .i64 e.size) ∧ w'.cell? ⟨bk, 3, none⟩ = some (.slice x e.chunks.length cc)) (first | exact KC.out _ BB4.out | exact KC.out _ BB5.out | exact KC.out _ B6.out | go_keep)
              ((first
                | (refine step_append_list (by rfl) (.tmp 66) (.tmp 68) 30 (by rfl) W2.heap.size 40 i1 (.agg #[.string ⟨#[]⟩, .int .i64 0, .int .i64 0, .slice none 0 0]) 4 56 Tryz.underlying30 ki kz0 kz1 kz2 rfl (by decide) (.slice av3 k cv3) k ([] ++ rowR (rs.take k)) (by rfl) OWN1.out ⟨w3.heap.size, 0, none⟩ 1 1 (cellsR ⟨e, x, cc⟩) (by rfl) (by rfl) NEWS1.out (rowR_one [⟨e, x, cc⟩]) (k + 1) rfl hm1 hm1' (by simp; omega) ?_; intro av4 cv4 w4 hown4 hk4; have O4 := hide hown4; have BB4 := hide (BW3.out.trans ((((Kept.refl (fun q => (Value.slice av3 k cv3).ownBlock = some q) w3).alloc _).drew.trans hk4).below hs3 (fun q hq hS => by have := (O3.out.lt q hS).1; omega))); clear hown4 hk4)
                | (refine step_append_list (by rfl) (.tmp 69) (.tmp 72) 30 (by rfl) W2.heap.size 40 i1 (.agg #[.string ⟨#[]⟩, .int .i64 0, .int .i64 0, .slice none 0 0]) 4 56 Tryz.underlying30 ki kz0 kz1 kz2 rfl (by decide) (.slice av4 (k + 1) cv4) (k + 1) (([] ++ rowR (rs.take k)) ++ cellsR ⟨e, x, cc⟩) (by rfl) O4.out ⟨g5, k * 4, none⟩ (bs.length - k) (lc - k) (rowR (rs.drop k)) (by rfl) hnl (NEWS2.out w4 BB4.out) (rowR_one _) (bs.length + 1) hk1' hm2 hm2' BB4.out.size ?_; intro av5 cv5 w5 hown5 hk5; have O5 := hide hown5; have BB5 := hide (BB4.out.trans (hk5.below BB4.out.size (fun q hq hS => by have := (O4.out.lt q hS).1; omega))); have RD5 := hide ((put_rows G1.out hk rfl G3.out HRx.out (below_next BW2.out BB5.out) hown5).rd); clear hown5 hk5)
                | (go_at_call 113; refine (l4Copy_any av5 cv5 (bs.length + 1) _ w5 RD5.out HLn.out (by rw [← HLn.out]; omega) HSm.out).mono ?_; rintro r w6 ⟨g6, cv6, rfl, hcv6, hG6, hb6⟩; have GG6 := hide (hG6.mono BB5.out.size); have B6 := hide (below_next BB5.out hb6); clear hG6 hb6)))
            have hpl : (putE es e).length = bs.length + 1 := by rw [HPU2.out]; exact HLn.out.symm
            have HPL := hide hpl
            clear hpl
            go_wp2_with fail
            go_ret
            have hz0 := HW0.out
            have hz1 := BW2.out.size
            exact ⟨g6, cv6, by rw [HPL.out]; rfl, by rw [HPL.out, HPU2.out]; exact GG6.out.mono (by omega), below_next B0.out (below_next BW2.out B6.out)⟩

end Go.Proofs.YtjkmbicedbdifaaGreat

namespace Go.Proofs.YtjkmbicedbdifaaGreat
open Go.RowKit Go.Maps
set_option linter.unusedVariables false
attribute [local go_sem ↓] Go.wp_at_zero Go.wp_at_succ

/-- append(nil, x...): x read, whether it has memory or not. -/
theorem wpList_append_nil {P : Program} {wr : World} {ops : Array Oper} {rest : List Oper} {o : Oper} {a : Act} {Q : Exit → Act → World → Prop} (hgd : o.guard = none) (s x : Operand) (t : TypeId)
    (ho : o.op = .call { callee := .builtin .append, args := #[s, x], argTypes := #[t, t] })
    (e : TypeId) (i : TypeInfo) (k : IntKind) (bytes : Nat) (hu : P.underlying t = some (.slice e)) (hi : P.info? e = some i) (hz : i.zero = some (.int k 0))
    (hsize : i.size = 1) (hby : i.bytes = bytes) (hs : a.eval s = .slice none 0 0)
    (xa : Option Addr) (m cap : Nat) (zs : List Int) (hx : a.eval x = .slice xa m cap) (hm : m = zs.length) (hr : Reads k wr xa zs)
    (h63 : 0 + m ≤ maxLen) (hbytes : (0 + m) * bytes ≤ 140737488355328)
    (h : ∀ av cv w', w'.ownsRow wr.heap.size e 1 (.slice av m cv) m (zs.map (Value.int k)) → Below wr.heap.size wr w' → wpList P ops Q rest (a.put o.dst (.slice av m cv)) w') :
    wpList P ops Q (o :: rest) a wr := by
  cases xa with
  | some ad =>
    refine wpList_append_own _ hgd s x t ho wr.heap.size e i (.int k 0) 1 bytes hu hi hz hsize hby rfl (by decide) _ 0 [] hs (World.ownsRow_nil _ _ _ _) ad m cap (zs.map (Value.int k)) hx (by simp [hm]) (fun j u hj => ?_) (ints_one _ _) h63 hbytes (Nat.le_refl _) ?_
    · have h0 : zs ≠ [] := fun e => by subst e; simp at hj
      obtain ⟨b, off, e1, hb, hc⟩ := hr h0
      simp only [Option.some.injEq] at e1
      subst e1
      exact reads_news hc j u hj
    · intro v' w' ho' hg _
      rw [List.nil_append, Nat.zero_add] at ho'
      obtain ⟨av, cv, rfl⟩ := ownsRow_shape ho'
      exact h av cv w' ho' ⟨hg.os, hg.tape, hg.output, hg.size, fun q hq => hg.block q hq (fun e => by simp [Value.ownBlock] at e)⟩
  | none =>
    have h0 : zs = [] := by
      by_cases h0 : zs = []
      · exact h0
      · obtain ⟨b, off, e1, _⟩ := hr h0; cases e1
    subst h0
    simp only [List.length_nil] at hm
    subst hm
    have hrun : (Builtin.append_ #[t, t] o.type #[.slice none 0 0, .slice none 0 cap]).run P wr = .ok (.slice none 0 0) wr := by
      simp [Builtin.append_, run_underlying hu, sizeOf, typeInfo, hi, Builtin.lenOf, Builtin.firstCells]
    refine wpList_plain hgd fun K hK => ?_
    unfold Oper.wp execOp
    simp only [ho, resolve, invoke, builtin, Sem.run_bind, Sem.run_pure, Result.andThen_ok, List.map_toArray, List.map_cons, List.map_nil, hs, hx, hrun]
    exact hK _ _ (h _ _ wr (World.ownsRow_nil _ _ _ _) (Below.refl _ _))

set_option maxHeartbeats 400000 in
theorem copyChunks_any (z : Int) (x : Option Addr) (c : Nat) (zs : List Int) (w : World) (h : Reads .i64 w x zs) (hc : zs.length ≤ 1048576) :
    Calls Tryz.prog 77 #[.agg #[.int .i64 z, .slice x zs.length c]] w fun r w' => ∃ av cv, r = .returned (.slice av zs.length cv) ∧ w'.ownsRow w.heap.size 2 1 (.slice av zs.length cv) zs.length (zs.map (Value.int .i64)) ∧ Below w.heap.size w w' := by
  obtain ⟨i0, hi0, hz0, hz1, hz2⟩ := info_parts Tryz.infoI64
  have HR := hide (h.below (below_alloc w (.cells #[.int .i64 z, .slice x zs.length c] 62)))
  have hm0 : 0 + zs.length ≤ maxLen := by unfold maxLen; omega
  have hm1 : (0 + zs.length) * 8 ≤ 140737488355328 := by omega
  clear h
  go_enter Tryz.func77, Tryz.ntmps77
  go_wp2_with (at_builtin; refine wpList_append_nil rfl (.const (.slice none 0 0)) (.tmp 4) 38 rfl 2 i0 .i64 8 Tryz.underlying38 hi0 hz0 hz1 hz2 rfl x zs.length c zs rfl rfl HR.out hm0 hm1 ?_; intro av cv w1 hown1 hk1; have O1 := hide hown1; have B1 := hide hk1; clear hown1 hk1)
  go_ret
  exact ⟨av, cv, rfl, ownsRow_mono O1.out (by simp), below_next (below_alloc _ _) B1.out⟩

theorem Tryz.infoIt : (Tryz.prog.info? 64).map (fun i => (i.zero, i.size, i.bytes)) = some (some (.agg #[.int .i64 0, .slice none 0 0, .string ⟨#[]⟩, .int .i64 0]), 4, 56) := by kernel_rfl

/-- An item's cells. -/
def cellsI (r : Rw) : List Value := [.int .i64 r.e.size, .slice r.a r.e.chunks.length r.c, .string (str r.e.path), .int .i64 r.e.kind]
def rowI (rs : List Rw) : List Value := rs.flatMap cellsI
theorem rowI_append (a b : List Rw) : rowI (a ++ b) = rowI a ++ rowI b := by simp [rowI]
theorem rowI_length : ∀ rs : List Rw, (rowI rs).length = rs.length * 4
  | [] => rfl
  | r :: rs => by
    have := rowI_length rs
    simp only [rowI, List.flatMap_cons, List.length_append, List.length_cons] at this ⊢
    rw [this]; simp [cellsI]; omega
theorem rowI_get : ∀ (rs : List Rw) (i q : Nat) (r : Rw), rs[i]? = some r → q < 4 → (rowI rs)[i * 4 + q]? = (cellsI r)[q]?
  | [], i, q, r, h, _ => by simp at h
  | x :: rs, 0, q, r, h, hq => by
    simp only [List.getElem?_cons_zero, Option.some.injEq] at h
    subst h
    simp only [rowI, List.flatMap_cons, Nat.zero_mul, Nat.zero_add]
    rw [List.getElem?_append_left (by simp [cellsI]; omega)]
  | x :: rs, i + 1, q, r, h, hq => by
    have := rowI_get rs i q r (by simpa using h) hq
    rw [← this]
    simp only [rowI, List.flatMap_cons]
    rw [List.getElem?_append_right (by simp [cellsI]; omega)]
    congr 1
    simp [cellsI]; omega
theorem rowI_one (rs : List Rw) : ∀ u ∈ rowI rs, u.oneCell' = true := by
  intro u hu
  simp only [rowI, List.mem_flatMap] at hu
  obtain ⟨r, _, hr⟩ := hu
  simp only [cellsI, List.mem_cons, List.not_mem_nil, or_false] at hr
  rcases hr with rfl | rfl | rfl | rfl <;> rfl
/-- The slice at address a reads as items of the entries es. -/
def RdI (w : World) (a : Option Addr) (es : List En) : Prop :=
  es ≠ [] → ∃ (b off : Nat) (A : Nat → Option Addr) (C : Nat → Nat), a = some ⟨b, off, none⟩ ∧ b < w.heap.size ∧ ∀ i e, es[i]? = some e →
    w.cell? ⟨b, off + i * 4, none⟩ = some (.int .i64 e.size) ∧ w.cell? ⟨b, off + i * 4 + 1, none⟩ = some (.slice (A i) e.chunks.length (C i)) ∧ w.cell? ⟨b, off + i * 4 + 2, none⟩ = some (.string (str e.path)) ∧
    w.cell? ⟨b, off + i * 4 + 3, none⟩ = some (.int .i64 e.kind) ∧ Reads .i64 w (A i) e.chunks
theorem RdI.below {w w' : World} {a : Option Addr} {es : List En} (h : RdI w a es) (hk : Below w.heap.size w w') : RdI w' a es := by
  intro hz
  obtain ⟨b, off, A, C, e, hb, hc⟩ := h hz
  refine ⟨b, off, A, C, e, Nat.lt_of_lt_of_le hb hk.size, fun i x hx => ?_⟩
  obtain ⟨c0, c1, c2, c3, r⟩ := hc i x hx
  exact ⟨(hk.cell (p := ⟨b, off + i * 4, none⟩) hb).trans c0, (hk.cell (p := ⟨b, off + i * 4 + 1, none⟩) hb).trans c1, (hk.cell (p := ⟨b, off + i * 4 + 2, none⟩) hb).trans c2, (hk.cell (p := ⟨b, off + i * 4 + 3, none⟩) hb).trans c3, r.below hk⟩
theorem RdI.at {w : World} {a : Option Addr} {es : List En} (h : RdI w a es) {k : Nat} (hk : k < es.length) :
    ∃ b off e x c, a = some ⟨b, off, none⟩ ∧ b < w.heap.size ∧ es[k]? = some e ∧ w.cell? ⟨b, off + k * 4, none⟩ = some (.int .i64 e.size) ∧ w.cell? ⟨b, off + k * 4 + 1, none⟩ = some (.slice x e.chunks.length c) ∧ w.cell? ⟨b, off + k * 4 + 2, none⟩ = some (.string (str e.path)) ∧
      w.cell? ⟨b, off + k * 4 + 3, none⟩ = some (.int .i64 e.kind) ∧ Reads .i64 w x e.chunks := by
  obtain ⟨b, off, A, C, e, hb, hc⟩ := h (by intro e; simp [e] at hk)
  have hx : es[k]? = some es[k] := List.getElem?_eq_getElem hk
  obtain ⟨c0, c1, c2, c3, r⟩ := hc k _ hx
  exact ⟨b, off, es[k], A k, C k, e, hb, hx, c0, c1, c2, c3, r⟩
/-- v is a row of items made since w0, whose chunks were read then. -/
def LI (w0 w : World) (v : Value) (es : List En) : Prop :=
  ∃ rs : List Rw, rs.map Rw.e = es ∧ w.ownsRow w0.heap.size 64 4 v es.length (rowI rs) ∧ ∀ r ∈ rs, Reads .i64 w0 r.a r.e.chunks
theorem LI.shape {w0 w : World} {v : Value} {es : List En} (h : LI w0 w v es) : ∃ a c, v = .slice a es.length c := by
  obtain ⟨rs, _, h1, _⟩ := h
  exact ownsRow_shape h1
theorem LI.nil (w0 w : World) : LI w0 w (.slice none 0 0) [] :=
  ⟨[], rfl, World.ownsRow_nil _ _ _ _, fun r hr => by simp at hr⟩
theorem LI.below {w0 w w' : World} {v : Value} {es : List En} (h : LI w0 w v es) (hk : Below w.heap.size w w') : LI w0 w' v es := by
  obtain ⟨rs, he, h1, h2⟩ := h
  exact ⟨rs, he, ownsRow_below h1 hk, h2⟩
theorem LI.push {w0 w2 : World} {v' : Value} {es : List En} {rs : List Rw} {e : En} {a : Option Addr} {c m : Nat} (he : rs.map Rw.e = es) (hm : m = es.length)
    (h2 : ∀ r ∈ rs, Reads .i64 w0 r.a r.e.chunks) (hr : Reads .i64 w0 a e.chunks)
    (hv' : w2.ownsRow w0.heap.size 64 4 v' (m + 1) (rowI rs ++ cellsI ⟨e, a, c⟩)) : LI w0 w2 v' (es ++ [e]) := by
  subst hm
  refine ⟨rs ++ [⟨e, a, c⟩], by rw [List.map_append, he]; rfl, ?_, fun r hx => ?_⟩
  · rw [rowI_append, List.length_append]
    simpa [rowI] using hv'
  · rcases List.mem_append.1 hx with hx | hx
    · exact h2 r hx
    · simp only [List.mem_singleton] at hx
      subst hx
      exact hr
theorem LI.rd {w0 w : World} {a : Option Addr} {n c : Nat} {es : List En} (h : LI w0 w (.slice a n c) es) (hb : Below w0.heap.size w0 w) : RdI w a es := by
  intro hz
  obtain ⟨rs, he, h1, h2⟩ := h
  have h0 : 0 < es.length := List.length_pos_iff.2 hz
  have hl : rs.length = es.length := by rw [← he, List.length_map]
  rcases h1.2 with ⟨_, h0'⟩ | ⟨g, cap, cur, h', hb', hh, hnc, hcm, hcs, htake⟩
  · omega
  · simp only [Value.slice.injEq] at h'
    obtain ⟨rfl, rfl, rfl⟩ := h'
    refine ⟨g, 0, fun i => (rs[i]?.map Rw.a).getD none, fun i => (rs[i]?.map Rw.c).getD 0, rfl, (h1.lt g rfl).2, fun i e hi => ?_⟩
    have hi0 : i < es.length := (List.getElem?_eq_some_iff.1 hi).1
    obtain ⟨r, hr⟩ : ∃ r, rs[i]? = some r := ⟨rs[i]'(by omega), List.getElem?_eq_getElem (by omega)⟩
    have hre : r.e = e := by
      have : (rs.map Rw.e)[i]? = some r.e := by rw [List.getElem?_map, hr]; rfl
      rw [he, hi] at this
      exact (Option.some.inj this).symm
    have hc := fun q hq => (h1.cellAt (i * 4 + q) (by omega)).trans (rowI_get rs i q r hr hq)
    simp only [hr, Option.map_some, Option.getD_some, Nat.zero_add]
    rw [← hre]
    exact ⟨hc 0 (by decide), hc 1 (by decide), hc 2 (by decide), hc 3 (by decide), (h2 r (List.mem_of_getElem? hr)).below hb⟩

end Go.Proofs.YtjkmbicedbdifaaGreat

namespace Go.Proofs.YtjkmbicedbdifaaGreat
open Go.RowKit Go.Maps
set_option linter.unusedVariables false
attribute [local go_sem ↓] Go.wp_at_zero Go.wp_at_succ

theorem RdI.fresh {w : World} {e : En} {x : Option Addr} {c : Nat} {t : TypeId} (h : Reads .i64 w x e.chunks) : RdI (w.alloc (.cells #[.int .i64 e.size, .slice x e.chunks.length c, .string (str e.path), .int .i64 e.kind] t)) (some ⟨w.heap.size, 0, none⟩) [e] := by
  intro _
  obtain ⟨f0, f1, f2, f3⟩ := Four.new w (.int .i64 e.size) (.slice x e.chunks.length c) (.string (str e.path)) (.int .i64 e.kind) t
  refine ⟨w.heap.size, 0, fun _ => x, fun _ => c, rfl, by simp, fun i y hy => ?_⟩
  have hi : i = 0 := by
    have := (List.getElem?_eq_some_iff.1 hy).1
    simp at this
    exact this
  subst hi
  simp only [List.getElem?_cons_zero, Option.some.injEq] at hy
  subst hy
  simp only [Nat.zero_mul, Nat.add_zero, Nat.zero_add]
  exact ⟨f0, f1, f2, f3, h.below (below_alloc _ _)⟩

set_option maxRecDepth 100000 in
set_option maxHeartbeats 3200000 in
theorem entriesOf_any (a : Option Addr) (c n : Nat) (es : List En) (w : World) (h : RdI w a es) (hn : n = es.length) (hl : es.length ≤ 1048576) (hs : SmallE es) :
    Calls Tryz.prog 37 #[.slice a n c] w fun r w' => ∃ av cv, r = .returned (.slice av n cv) ∧ GE w.heap.size w'.heap.size w' (.slice av n cv) es ∧ Below w.heap.size w w' := by
  subst hn
  obtain ⟨i1, ki, kz0, kz1, kz2⟩ := info_parts Tryz.infoEn
  have HA := hide h
  have HS := hide hs
  clear h hs
  go_enter Tryz.func37, Tryz.ntmps37
  go_wp2_with fail
  go_loopw [3, 8] (fun v i wr => ∃ j : Nat, j ≤ es.length ∧ i = .int .i64 j ∧ Hid (GE w.heap.size wr.heap.size wr v (es.take j)) ∧ Hid (Below w.heap.size w wr)) (fun _ i _ => es.length - (intOf i).toNat)
  case atStart => exact ⟨0, Nat.zero_le _, rfl, hide (GE.nil _ _ _), hide (Below.refl _ _)⟩
  case round =>
    obtain ⟨j, hj, rfl, HG, HW⟩ := hrel
    obtain ⟨lv, lc, hv⟩ := HG.out.shape
    rw [take_len hj] at hv
    subst hv
    have HA1 := hide (HA.out.below HW.out)
    have hsz := HW.out.size
    by_cases hlt : j < es.length
    · obtain ⟨b, off, e, x, cc, rfl, hb, he, c0, c1, c2, c3, hr⟩ := HA1.out.at hlt
      have HX := hide he
      have HRc := hide (hr.below (below_alloc wr (.cells #[.int .i64 e.size, .slice x e.chunks.length cc, .string (str e.path), .int .i64 e.kind] 64)))
      have hsm := HS.out e (List.mem_of_getElem? he)
      have BW2 := hide (below_alloc wr (.cells #[.int .i64 e.size, .slice x e.chunks.length cc, .string (str e.path), .int .i64 e.kind] 64))
      have F4 := hide (Four.new wr (.int .i64 e.size) (.slice x e.chunks.length cc) (.string (str e.path)) (.int .i64 e.kind) 64)
      clear he hr
      obtain ⟨rs, g1, g2, g3, g4, g5, g6⟩ := HG.out
      have G1 := hide g1
      have G2 := hide g2
      have G3 := hide g3
      have G4 := hide g4
      clear g1 g2 g3 g4 g5 g6 HG
      have hj1 : (es.take j).length = j := take_len hj
      have hm1 : j + 1 ≤ maxLen := by unfold maxLen; omega
      have hm1' : (j + 1) * 56 ≤ 140737488355328 := by omega
      have G2' : Hid (wr.ownsRow w.heap.size 40 4 (.slice lv j lc) j (rowR rs)) := by have := G2.out; rw [hj1] at this; exact this
      have HJ := hide hj1
      clear hj1
      go_wp2_with fail
      clear c0 c1 c2 c3
      have hbk : wr.heap.size < (wr.alloc (.cells #[.int .i64 e.size, .slice x e.chunks.length cc, .string (str e.path), .int .i64 e.kind] 64)).heap.size := F4.out.lt
      generalize wr.alloc (.cells #[.int .i64 e.size, .slice x e.chunks.length cc, .string (str e.path), .int .i64 e.kind] 64) = W2 at *
      obtain ⟨bk, hbke⟩ : ∃ bk, bk = wr.heap.size := ⟨_, rfl⟩
      rw [← hbke] at F4 hbk ⊢
      have HBK := hide hbke
      clear hbke
      have KC : Hid (∀ w' : World, Below W2.heap.size W2 w' → w'.cell? ⟨bk, 0, none⟩ = some (.int .i64 e.size) ∧ w'.cell? ⟨bk, 1, none⟩ = some (.slice x e.chunks.length cc) ∧ w'.cell? ⟨bk, 2, none⟩ = some (.string (str e.path)) ∧ w'.cell? ⟨bk, 3, none⟩ = some (.int .i64 e.kind)) := hide (fun w' hb' => F4.out.below hb')
      have KD : Hid (∀ w2 w3 : World, Below W2.heap.size W2 w2 → Kept (fun q => (Value.slice lv j lc).ownBlock = some q) w2 w3 → w3.cell? ⟨bk, 0, none⟩ = some (.int .i64 e.size) ∧ w3.cell? ⟨bk, 1, none⟩ = some (.slice x e.chunks.length cc) ∧ w3.cell? ⟨bk, 2, none⟩ = some (.string (str e.path)) ∧ w3.cell? ⟨bk, 3, none⟩ = some (.int .i64 e.kind)) := hide (fun w2 w3 hb' hk' => by
        have hn : ¬ (Value.slice lv j lc).ownBlock = some bk := fun hq => by have := (G2'.out.lt bk hq).2; have := HBK.out; omega
        have hlt2 : bk < w2.heap.size := Nat.lt_of_lt_of_le hbk hb'.size
        obtain ⟨q0, q1, q2, q3⟩ := KC.out w2 hb'
        exact ⟨(hk'.cell (p := ⟨bk, 0, none⟩) hlt2 hn).trans q0, (hk'.cell (p := ⟨bk, 1, none⟩) hlt2 hn).trans q1, (hk'.cell (p := ⟨bk, 2, none⟩) hlt2 hn).trans q2, (hk'.cell (p := ⟨bk, 3, none⟩) hlt2 hn).trans q3⟩)
      obtain ⟨f0, f1, f2, f3⟩ := F4.out
      go_region_held3 (fun w' => w'.cell? ⟨bk, 0, none⟩ = some (.int .i64 e.size) ∧ w'.cell? ⟨bk, 1, none⟩ = some (.slice x e.chunks.length cc) ∧ w'.cell? ⟨bk, 2, none⟩ = some (.string (str e.path)) ∧ w'.cell? ⟨bk, 3, none⟩ = some (.int .i64 e.kind)) (first | exact KC.out _ BB1.out | exact KC.out _ BB2.out | exact KD.out _ _ BB2.out K3.out | go_keep)
        ((first
          | (go_at_call 27; refine (clone_str _ _ (by rw [str_size]; omega)).mono ?_; rintro r w1 ⟨rfl, hb1⟩; have BB1 := hide ((Below.refl W2.heap.size W2).drew.trans hb1); clear hb1)
          | (go_at_call 77; refine (copyChunks_any _ _ _ _ _ (HRc.out.below BB1.out) hsm.2).mono ?_; rintro r w2 ⟨av2, cv2, rfl, ho2, hb2⟩; have O2 := hide ho2; have BB2 := hide (below_next BB1.out hb2); clear ho2 hb2)
          | (refine step_append_list (by rfl) (.tmp 12) (.tmp 25) 30 (by rfl) w.heap.size 40 i1 (.agg #[.string ⟨#[]⟩, .int .i64 0, .int .i64 0, .slice none 0 0]) 4 56 Tryz.underlying30 ki kz0 kz1 kz2 rfl (by decide) (.slice lv j lc) j (rowR rs) (by rfl) ((ownsRow_below G2'.out (below_next BW2.out BB2.out)).alloc _) ⟨w2.heap.size, 0, none⟩ 1 1 (cellsR ⟨e, av2, cv2⟩) (by rfl) (by rfl) (news_four rfl) (rowR_one [⟨e, av2, cv2⟩]) (j + 1) rfl hm1 hm1' (by have := BW2.out.size; have := BB2.out.size; simp; omega) ?_; intro av3 cv3 w3 hown3 hk3; have O3 := hide hown3; have K3 := hide (((Kept.refl (fun q => (Value.slice lv j lc).ownBlock = some q) w2).alloc _).trans hk3); clear hown3 hk3)))
      go_wp2_with fail
      go_roundw
      case rel =>
        have hs1 := BW2.out.size
        have hs2 := BB1.out.size
        have hs3 := BB2.out.size
        refine ⟨j + 1, by omega, by go_num, hide ?_, hide ?_⟩
        · rw [take_snoc_at HX.out]
          exact GE.push G1.out G2.out G3.out G4.out hsz (below_next BW2.out BB2.out) (ownsRow_mono O2.out (by omega)) (by rw [HJ.out]; exact O3.out) K3.out
        · exact (below_next HW.out (below_next BW2.out BB2.out)).trans (K3.out.below (by omega) (fun k hk hx => by have := (G2'.out.lt k hx).1; omega))
      case measure => simp [intOf]; omega
    · have hje : j = es.length := by omega
      have HE := hide (show es.take j = es from List.take_of_length_le (by omega))
      have HG2 : Hid (GE w.heap.size wr.heap.size wr (.slice lv j lc) es) := by have := HG.out; rw [HE.out] at this; exact this
      clear HG HE
      subst hje
      go_wp2_with fail
      go_ret
      exact ⟨_, _, rfl, HG2.out, HW.out⟩

end Go.Proofs.YtjkmbicedbdifaaGreat

namespace Go.Proofs.YtjkmbicedbdifaaGreat
open Go.RowKit Go.Maps
set_option linter.unusedVariables false
attribute [local go_sem ↓] Go.wp_at_zero Go.wp_at_succ

/-- What the program's EntryAt answers. -/
def findCodeP (es : List En) (p : Bs) : Int := if askP es p = 0 then (if (findE es p).isSome then 0 else 4) else askP es p
def findListP (es : List En) (p : Bs) : List En := if findCodeP es p = 0 then (findE es p).toList else []
theorem findE_step {es : List En} {k : Nat} {e : En} {p : Bs} (he : es[k]? = some e) (h : findE es p = findE (es.drop k) p) (hp : e.path ≠ p) : findE es p = findE (es.drop (k + 1)) p := by
  rw [h, drop_at he, findE, List.find?_cons]
  simp [hp, findE]
theorem findE_hit {es : List En} {k : Nat} {e : En} {p : Bs} (he : es[k]? = some e) (h : findE es p = findE (es.drop k) p) (hp : e.path = p) : findE es p = some e := by
  rw [h, drop_at he, findE, List.find?_cons]
  simp [hp]
theorem findE_end {es : List En} {k : Nat} {p : Bs} (hk : es.length ≤ k) (h : findE es p = findE (es.drop k) p) : findE es p = none := by
  rw [h, List.drop_eq_nil_of_le hk]; rfl


/-- Is a path the other one, or below it, as the program asks? -/
def atBelow (p t : Bs) : Bool := decide (p = t) || isBelow p t
set_option maxHeartbeats 800000 in
theorem isAtOrBelow_any (p t : Bs) (k z : Int) (a : Option Addr) (n c : Nat) (w : World) (hp : p.length ≤ 1048576) :
    Calls Tryz.prog 137 #[.agg #[.int .i64 z, .slice a n c, .string (str p), .int .i64 k], .string (str t)] w fun r w' => r = .returned (.bool (atBelow p t)) ∧ Below w.heap.size w w' := by
  have HB := hide (below_alloc w (.cells #[.int .i64 z, .slice a n c, .string (str p), .int .i64 k] 64))
  by_cases h : p = t
  · have hs1 := str_yes h
    have HE := hide (show atBelow p t = true from by simp [atBelow, h])
    clear h
    generalize atBelow p t = Z at HE ⊢
    go_enter Tryz.func137, Tryz.ntmps137
    go_wp2_with fail
    go_ret
    exact ⟨ret_bool HE.out.symm, HB.out⟩
  · have hs1 := str_no h
    have HE := hide (show atBelow p t = isBelow p t from by simp [atBelow, h])
    clear h
    generalize atBelow p t = Z at HE ⊢
    go_enter Tryz.func137, Tryz.ntmps137
    go_wp2_with fail
    refine (implIsBelow_any _ _ _ (by rw [str_size]; omega)).mono ?_
    rintro r w1 ⟨rfl, hb1⟩
    rw [str_data, str_data, ← HE.out]
    have HB1 := hide (below_next HB.out hb1)
    clear hb1 HE
    go_wp2_with fail
    cases Z
    · go_ret
      exact ⟨rfl, HB1.out⟩
    · go_ret
      exact ⟨rfl, HB1.out⟩
/-- Does an entry give way to another one that is put? -/
def oustsE (e x : En) : Bool := if dirK e.kind then decide (x.path = e.path) else atBelow x.path e.path

/-- What DropBelow leaves. -/
def restP (es : List En) (p : Bs) : List En := es.filter fun e => !(atBelow e.path p)
def dropListP (es : List En) (p : Bs) : List En := if askP es p = 0 then restP es p else []
theorem restP_in {es : List En} {p : Bs} {k : Nat} {e : En} (he : es[k]? = some e) (h : atBelow e.path p = false) : restP (es.take (k + 1)) p = restP (es.take k) p ++ [e] := by
  rw [take_snoc_at he]; simp [restP, h]
theorem restP_out {es : List En} {p : Bs} {k : Nat} {e : En} (he : es[k]? = some e) (h : atBelow e.path p = true) : restP (es.take (k + 1)) p = restP (es.take k) p := by
  rw [take_snoc_at he]; simp [restP, h]
theorem restP_len (es : List En) (p : Bs) : (restP es p).length ≤ es.length := List.length_filter_le _ _
theorem restP_small {es : List En} (h : SmallE es) (p : Bs) : SmallE (restP es p) := fun e he => h e (List.mem_filter.1 he).1


end Go.Proofs.YtjkmbicedbdifaaGreat

namespace Go.Proofs.YtjkmbicedbdifaaGreat
open Go.RowKit Go.Maps
set_option linter.unusedVariables false

/-- What PutEntry answers. -/
def putCode (es : List En) (e : En) : Int :=
  if layFault es = 0 then (if entFault e = 0 then (if homeE es e.path then (if 12 < (putE es e).length then 2 else 0) else 9) else entFault e) else layFault es
def putList (es : List En) (e : En) : List En := if putCode es e = 0 then putE es e else []

set_option maxRecDepth 100000 in
set_option maxHeartbeats 3200000 in
theorem specPutEntry_any (a : Option Addr) (c n : Nat) (es : List En) (e : En) (x : Option Addr) (m cc : Nat) (w : World) (h : RdE w a es) (hn : n = es.length) (hl : es.length < 1048576) (hs : SmallE es) (hm : m = e.chunks.length) (hr : Reads .i64 w x e.chunks) (hp : e.path.length ≤ 1048576) (hcl : e.chunks.length ≤ 1048576) :
    Calls Tryz.prog 95 #[.slice a n c, .agg #[.string (str e.path), .int .i64 e.kind, .int .i64 e.size, .slice x m cc]] w (ResE (putCode es e) (putList es e) w) := by
  subst hn
  subst hm
  have HF := hide (fun u hb => l4Fault_any a c es.length es u (h.below hb) rfl (by omega) hs)
  have HEf := hide (fun u (hb : Below w.heap.size w u) => specEntryFault_any e x cc e.chunks.length u (hr.below hb) rfl hp hcl)
  have HHo := hide (fun u hb h1 => l4Home_any a c es.length es e.path u (h.below hb) rfl (by omega) h1 hp)
  have HPu := hide (fun u hb => l4Put_any a c es.length es e x e.chunks.length cc u (h.below hb) rfl hl hs rfl (hr.below hb) hp hcl)
  clear h hs hr
  go_enter Tryz.func95, Tryz.ntmps95
  go_wp2_with fail
  have B0 := hide (below_next (below_alloc w (.cells #[.string (str e.path), .int .i64 e.kind, .int .i64 e.size, .slice x e.chunks.length cc] 40)) (below_alloc _ (.cells #[.int .i64 0, .slice none 0 0] 36)))
  have F0 := hide ((Four.new w (.string (str e.path)) (.int .i64 e.kind) (.int .i64 e.size) (.slice x e.chunks.length cc) 40).below (below_alloc _ (.cells #[.int .i64 0, .slice none 0 0] 36)))
  have X0 := hide (Box.new (w.alloc (.cells #[.string (str e.path), .int .i64 e.kind, .int .i64 e.size, .slice x e.chunks.length cc] 40)) (.int .i64 0) (.slice none 0 0) 36)
  have hsz0 : (w.alloc (.cells #[.string (str e.path), .int .i64 e.kind, .int .i64 e.size, .slice x e.chunks.length cc] 40)).heap.size = w.heap.size + 1 := by simp
  rw [hsz0] at X0
  clear hsz0
  generalize (w.alloc (.cells #[.string (str e.path), .int .i64 e.kind, .int .i64 e.size, .slice x e.chunks.length cc] 40)).alloc (.cells #[.int .i64 0, .slice none 0 0] 36) = w0 at *
  have hrb : w.heap.size ≤ w.heap.size + 1 := Nat.le_succ _
  generalize hbk : w.heap.size + 1 = rb at *
  have HRB := hide hrb
  clear hrb hbk
  refine (HF.out _ B0.out).mono ?_
  rintro r w1 ⟨rfl, hb1⟩
  have B1 := hide (below_next B0.out hb1)
  have F1 := hide (F0.out.below hb1)
  have X1 := hide (X0.out.below hb1)
  clear hb1 B0 F0 X0 HF
  by_cases hz : layFault es = 0
  · rw [hz]
    obtain ⟨f0, f1, f2, f3⟩ := F1.out
    go_wp2_with fail
    refine (HEf.out _ B1.out).mono ?_
    rintro r w2 ⟨rfl, hb2⟩
    have B2 := hide (below_next B1.out hb2)
    have X2 := hide (X1.out.below hb2)
    have F2 := hide (F1.out.below hb2)
    clear hb2 f0 f1 f2 f3 F1 X1 B1 HEf
    by_cases he : entFault e = 0
    · rw [he]
      have hpos := path_pos (entFault_zero he)
      obtain ⟨f0, f1, f2, f3⟩ := F2.out
      go_wp2_with fail
      refine (HHo.out _ B2.out hpos).mono ?_
      rintro r w3 ⟨rfl, hb3⟩
      have B3 := hide (below_next B2.out hb3)
      have X3 := hide (X2.out.below hb3)
      have F3 := hide (F2.out.below hb3)
      clear hb3 f0 f1 f2 f3 F2 X2 B2 HHo
      cases hh : homeE es e.path
      · have HC := hide (show putCode es e = 9 ∧ putList es e = [] from by
          have : putCode es e = 9 := by simp [putCode, hz, he, hh]
          exact ⟨this, by simp [putList, this]⟩)
        clear hh hz he
        obtain ⟨⟨t0, t1⟩, t2, t3⟩ := X3.out
        go_wp2_with fail
        exact bodyPost_ret (v := .agg #[.int .i64 9, .slice none 0 0]) (by simp [results, Tryz.results95, go_sem, t0, t1]) rfl (by rw [HC.out.1, HC.out.2]; exact ResE.bad HRB.out B3.out)
      · have HC0 := hide (show putCode es e = (if 12 < (putE es e).length then 2 else 0) from by simp [putCode, hz, he, hh])
        clear hh hz he
        obtain ⟨f0, f1, f2, f3⟩ := F3.out
        go_wp2_with fail
        refine (HPu.out _ B3.out).mono ?_
        rintro r w4 ⟨g, cv, rfl, hG, hb4⟩
        have hlt0 := X3.out.1.lt
        have B4 := hide (below_next B3.out hb4)
        obtain ⟨⟨t0, t1⟩, t2, t3⟩ := X3.out.below hb4
        have GG := hide hG
        clear hG hb4 f0 f1 f2 f3 F3 X3 HPu
        by_cases hq : 12 < (putE es e).length
        · have HC := hide (show putCode es e = 2 ∧ putList es e = [] from by
            have : putCode es e = 2 := by rw [HC0.out, if_pos hq]
            exact ⟨this, by simp [putList, this]⟩)
          have hq2 : (12 : Int) < ((putE es e).length : Int) := by omega
          go_wp2_with fail
          exact bodyPost_ret (v := .agg #[.int .i64 2, .slice none 0 0]) (by simp [results, Tryz.results95, go_sem, t0, t1]) rfl (by rw [HC.out.1, HC.out.2]; exact ResE.bad HRB.out B4.out)
        · have HC := hide (show putCode es e = 0 ∧ putList es e = putE es e from by
            have : putCode es e = 0 := by rw [HC0.out, if_neg hq]
            exact ⟨this, by simp [putList, this]⟩)
          have hq2 : ¬ (12 : Int) < ((putE es e).length : Int) := by omega
          go_wp2_with fail
          exact bodyPost_ret (v := .agg #[.int .i64 0, .slice (some ⟨g, 0, none⟩) (putE es e).length cv]) (by simp [results, Tryz.results95, go_sem, t0, t1]) rfl (by rw [HC.out.1, HC.out.2]; exact ResE.of (w2 := w3) hlt0 HRB.out rfl GG.out B4.out)
    · have HC := hide (show putCode es e = entFault e ∧ putList es e = [] from by
        have : putCode es e = entFault e := by simp [putCode, hz, he]
        exact ⟨this, by simp [putList, this, he]⟩)
      generalize entFault e = F at *
      have hz2 : (F != 0) = true := by simp; exact he
      clear he hz
      obtain ⟨⟨t0, t1⟩, t2, t3⟩ := X2.out
      go_wp2_with fail
      exact bodyPost_ret (v := .agg #[.int .i64 F, .slice none 0 0]) (by simp [results, Tryz.results95, go_sem, t0, t1]) rfl (by rw [HC.out.1, HC.out.2]; exact ResE.bad HRB.out B2.out)
  · have HC := hide (show putCode es e = layFault es ∧ putList es e = [] from by
      have : putCode es e = layFault es := by simp [putCode, hz]
      exact ⟨this, by simp [putList, this, hz]⟩)
    generalize layFault es = F at *
    have hz2 : (F != 0) = true := by simp; exact hz
    clear hz
    obtain ⟨⟨t0, t1⟩, t2, t3⟩ := X1.out
    go_wp2_with fail
    exact bodyPost_ret (v := .agg #[.int .i64 F, .slice none 0 0]) (by simp [results, Tryz.results95, go_sem, t0, t1]) rfl (by rw [HC.out.1, HC.out.2]; exact ResE.bad HRB.out B1.out)

end Go.Proofs.YtjkmbicedbdifaaGreat

namespace Go.Proofs.YtjkmbicedbdifaaGreat
set_option linter.unusedVariables false

theorem bl_irrefl : ∀ a : Bs, Op.bytesLess a a = false
  | [] => rfl
  | c :: a => by simp [Op.bytesLess, bl_irrefl a]
theorem bl_trans : ∀ a b c : Bs, Op.bytesLess a b = true → Op.bytesLess b c = true → Op.bytesLess a c = true
  | a, [], c, h, _ => by cases a <;> simp [Op.bytesLess] at h
  | [], b :: bs, [], _, h2 => by simp [Op.bytesLess] at h2
  | [], b :: bs, c :: cs, _, _ => by simp [Op.bytesLess]
  | a :: xs, b :: ys, [], _, h2 => by simp [Op.bytesLess] at h2
  | a :: xs, b :: ys, c :: zs, h1, h2 => by
    simp only [Op.bytesLess, Bool.or_eq_true, decide_eq_true_eq, Bool.and_eq_true, beq_iff_eq] at h1 h2 ⊢
    rcases h1 with h1 | ⟨rfl, h1⟩
    · rcases h2 with h2 | ⟨rfl, h2⟩
      · exact .inl (UInt8.lt_trans h1 h2)
      · exact .inl h1
    · rcases h2 with h2 | ⟨rfl, h2⟩
      · exact .inl h2
      · exact .inr ⟨rfl, bl_trans xs ys zs h1 h2⟩
theorem bl_total : ∀ a b : Bs, Op.bytesLess a b = false → a ≠ b → Op.bytesLess b a = true
  | [], [], _, h => absurd rfl h
  | [], b :: bs, h, _ => by simp [Op.bytesLess] at h
  | a :: xs, [], _, _ => by simp [Op.bytesLess]
  | a :: xs, b :: ys, h, hn => by
    simp only [Op.bytesLess, Bool.or_eq_false_iff, decide_eq_false_iff_not, Bool.and_eq_false_iff, beq_eq_false_iff_ne] at h
    simp only [Op.bytesLess, Bool.or_eq_true, decide_eq_true_eq, Bool.and_eq_true, beq_iff_eq]
    by_cases e : a = b
    · subst e
      refine .inr ⟨rfl, bl_total xs ys ?_ (fun x => hn (by rw [x]))⟩
      rcases h.2 with h2 | h2
      · exact absurd rfl h2
      · exact h2
    · refine .inl ?_
      have h1 := h.1
      rw [UInt8.lt_iff_toNat_lt] at h1 ⊢
      have : a.toNat ≠ b.toNat := fun x => e (UInt8.toNat_inj.1 x)
      omega
theorem bl_asymm {a b : Bs} (h : Op.bytesLess a b = true) : Op.bytesLess b a = false := by
  cases h2 : Op.bytesLess b a
  · rfl
  · have := bl_trans a b a h h2
    rw [bl_irrefl] at this
    cases this
theorem bl_ne {a b : Bs} (h : Op.bytesLess a b = true) : a ≠ b := fun e => by rw [e, bl_irrefl] at h; cases h

/-- Rising by path. -/
def Rise (es : List En) : Prop := es.Pairwise fun x y => Op.bytesLess x.path y.path = true
theorem lowE_some {q e : En} (h : lowE (some q) e = false) : Op.bytesLess q.path e.path = true := by
  simp only [lowE, Bool.or_eq_false_iff, beq_eq_false_iff_ne] at h
  exact bl_total _ _ h.1 h.2
theorem lowE_of {q e : En} (h : Op.bytesLess q.path e.path = true) : lowE (some q) e = false := by
  simp only [lowE, Bool.or_eq_false_iff, beq_eq_false_iff_ne]
  exact ⟨bl_asymm h, fun x => bl_ne h x.symm⟩
theorem layFromH_zero {H : Bs → Bool} : ∀ {l : List En} {prev : Option En}, layFromH H prev l = 0 ↔ (∀ e ∈ l, entFault e = 0 ∧ H e.path = true) ∧ Rise l ∧ ∀ q, prev = some q → ∀ e ∈ l, Op.bytesLess q.path e.path = true
  | [], prev => by simp [layFromH, Rise]
  | x :: r, prev => by
    have ih := layFromH_zero (H := H) (l := r) (prev := some x)
    have hx : entBadH H prev x = 0 ↔ entFault x = 0 ∧ lowE prev x = false ∧ H x.path = true := by
      unfold entBadH
      by_cases h1 : entFault x = 0
      · simp only [h1, if_true, true_and]
        cases h2 : lowE prev x
        · cases h3 : H x.path <;> simp
        · simp
      · simp [h1]
    simp only [layFromH]
    by_cases hb : entBadH H prev x = 0
    · rw [if_pos hb, ih]
      obtain ⟨h1, h2, h3⟩ := hx.1 hb
      constructor
      · rintro ⟨a1, a2, a3⟩
        refine ⟨fun e he => ?_, List.pairwise_cons.2 ⟨fun e he => a3 x rfl e he, a2⟩, fun q hq e he => ?_⟩
        · rcases List.mem_cons.1 he with rfl | he
          · exact ⟨h1, h3⟩
          · exact a1 e he
        · subst hq
          have := lowE_some h2
          rcases List.mem_cons.1 he with rfl | he
          · exact this
          · exact bl_trans _ _ _ this (a3 x rfl e he)
      · rintro ⟨a1, a2, a3⟩
        refine ⟨fun e he => a1 e (List.mem_cons_of_mem _ he), (List.pairwise_cons.1 a2).2, fun q hq e he => ?_⟩
        cases hq
        exact (List.pairwise_cons.1 a2).1 e he
    · rw [if_neg hb]
      constructor
      · intro h; exact absurd h hb
      · rintro ⟨a1, a2, a3⟩
        exfalso
        refine hb (hx.2 ⟨(a1 x List.mem_cons_self).1, ?_, (a1 x List.mem_cons_self).2⟩)
        cases prev with
        | none => rfl
        | some q => exact lowE_of (a3 q rfl x List.mem_cons_self)
theorem rise_find {es : List En} (h : Rise es) {e : En} (he : e ∈ es) : findE es e.path = some e := by
  induction es with
  | nil => simp at he
  | cons x r ih =>
    have hp := List.pairwise_cons.1 h
    rcases List.mem_cons.1 he with rfl | he
    · simp [findE]
    · have := hp.1 e he
      rw [findE, List.find?_cons]
      have hn : x.path ≠ e.path := bl_ne this
      simp only [hn, decide_false]
      exact ih hp.2 he
theorem find_mem {es : List En} {p : Bs} {e : En} (h : findE es p = some e) : e ∈ es ∧ e.path = p := by
  refine ⟨List.mem_of_find?_eq_some h, ?_⟩
  have := List.find?_some h
  simpa using this
theorem find_none {es : List En} {p : Bs} (h : ∀ e ∈ es, e.path ≠ p) : findE es p = none := by
  rw [findE, List.find?_eq_none]
  intro e he
  simpa using h e he
theorem homeP_iff {es : List En} {p : Bs} : homeP es p = true ↔ parentP p = [] ∨ ∃ d ∈ es, d.path = parentP p ∧ dirK d.kind = true := by
  unfold homeP hasDir
  by_cases h : parentP p = []
  · simp [h]
  · simp [h]
/-- Where no path is there twice both words are one. -/
theorem homeP_eq {es : List En} (h : Rise es) (p : Bs) : homeP es p = homeE es p := by
  unfold homeP homeE
  by_cases h0 : parentP p = []
  · simp [h0]
  · rw [if_neg h0, if_neg h0]
    cases hf : findE es (parentP p) with
    | none =>
      rw [hasDir, List.any_eq_false]
      intro x hx
      have := List.find?_eq_none.1 hf x hx
      simp only [decide_eq_true_eq] at this
      simp [this]
    | some d =>
      obtain ⟨hd, hdp⟩ := find_mem hf
      cases hk : dirK d.kind
      · show hasDir es (parentP p) = dirK d.kind
        rw [hk, hasDir, List.any_eq_false]
        intro x hx
        by_cases hxp : x.path = parentP p
        · have := rise_find h hx
          rw [hxp, hf] at this
          cases this
          simp [hk]
        · simp [hxp]
      · show hasDir es (parentP p) = dirK d.kind
        rw [hk, hasDir, List.any_eq_true]
        exact ⟨d, hd, by simp [hdp, hk]⟩
/-- A layer without faults. -/
structure Right (es : List En) : Prop where
  len : es.length ≤ 12
  ent : ∀ e ∈ es, entFault e = 0
  rise : Rise es
  home : ∀ e ∈ es, homeP es e.path = true
theorem right_P {es : List En} : layFaultP es = 0 ↔ Right es := by
  unfold layFaultP
  by_cases h : 12 < es.length
  · rw [if_pos h]
    exact ⟨fun x => (by cases x), fun x => (by have := x.len; omega)⟩
  · rw [if_neg h, layFromH_zero]
    exact ⟨fun ⟨a, b, _⟩ => ⟨by omega, fun e he => (a e he).1, b, fun e he => (a e he).2⟩, fun x => ⟨fun e he => ⟨x.ent e he, x.home e he⟩, x.rise, fun q hq => by cases hq⟩⟩
theorem layFromH_congr {H H' : Bs → Bool} : ∀ {l : List En} {prev : Option En}, (∀ e ∈ l, entFault e = 0 → H e.path = H' e.path) → layFromH H prev l = layFromH H' prev l
  | [], _, _ => rfl
  | x :: r, prev, h => by
    have hx : entBadH H prev x = entBadH H' prev x := by
      unfold entBadH
      by_cases h1 : entFault x = 0
      · rw [h x List.mem_cons_self h1]
      · simp [h1]
    simp only [layFromH]
    rw [hx, layFromH_congr (l := r) (prev := some x) (fun e he => h e (List.mem_cons_of_mem _ he))]
theorem right_E {es : List En} : layFault es = 0 ↔ Right es := by
  unfold layFault
  by_cases h : 12 < es.length
  · rw [if_pos h]
    exact ⟨fun x => (by cases x), fun x => (by have := x.len; omega)⟩
  · rw [if_neg h, layFrom_H, layFromH_zero]
    exact ⟨fun ⟨a, b, _⟩ => ⟨by omega, fun e he => (a e he).1, b, fun e he => by rw [homeP_eq b]; exact (a e he).2⟩, fun x => ⟨fun e he => ⟨x.ent e he, by rw [← homeP_eq x.rise]; exact x.home e he⟩, x.rise, fun q hq => by cases hq⟩⟩

theorem belowB_iff {p t : Bs} : belowB p t = true ↔ ∃ r, r ≠ [] ∧ p = t ++ 47 :: r := by
  simp only [belowB, Bool.and_eq_true, decide_eq_true_eq, beq_iff_eq]
  constructor
  · rintro ⟨⟨hl, ht⟩, hh⟩
    cases e : p.drop t.length with
    | nil => rw [e] at hh; simp at hh
    | cons c r =>
      rw [e] at hh
      simp at hh
      subst hh
      refine ⟨r, ?_, ?_⟩
      · intro h0
        have := congrArg List.length e
        rw [List.length_drop, h0] at this
        simp at this
        omega
      · rw [← e]
        conv => lhs; rw [← List.take_append_drop t.length p, ht]
  · rintro ⟨r, hr, rfl⟩
    have := List.length_pos_iff.2 hr
    simp
    first | done | omega
theorem below_trans {p q t : Bs} (h1 : belowB p q = true) (h2 : belowB q t = true) : belowB p t = true := by
  obtain ⟨r, hr, rfl⟩ := belowB_iff.1 h1
  obtain ⟨s, hs, rfl⟩ := belowB_iff.1 h2
  exact belowB_iff.2 ⟨s ++ 47 :: r, by simp, by simp⟩
theorem below_len {p t : Bs} (h : belowB p t = true) : t.length < p.length := by
  obtain ⟨r, hr, rfl⟩ := belowB_iff.1 h
  simp
theorem below_irrefl (p : Bs) : belowB p p = false := by
  cases h : belowB p p
  · rfl
  · have := below_len h; omega
/-- The path above: it has no fault, and the path is below it. -/
theorem parent_above {p : Bs} (hp : faultP p = 0) (h : parentP p ≠ []) : faultP (parentP p) = 0 ∧ belowB p (parentP p) = true := by
  have hm : parentP p ∈ aboveN (cutB p.tail) := by
    have hne : aboveN (cutB p.tail) ≠ [] := fun e => h (parentP_nil.2 e)
    unfold parentP
    rw [List.getLastD_eq_getLast?, List.getLast?_eq_some_getLast hne]
    exact List.getLast_mem _
  exact (above_iff hp).1 hm
theorem isBelow_eq {p t : Bs} (hp : faultP p = 0) (ht : faultP t = 0) : isBelow p t = belowB p t := by
  rw [isBelow_good hp]
  cases h : belowB p t <;> simp [ht]
theorem ousts_keep {e x : En} (he : faultP e.path = 0) (hx : faultP x.path = 0) : (!oustsE e x) = keepE e x := by
  unfold oustsE keepE atBelow
  rw [isBelow_eq hx he]
  cases dirK e.kind <;> cases belowB x.path e.path <;> by_cases h : x.path = e.path <;> simp [h]

theorem mem_putAt {bs : List En} {e x : En} : x ∈ putAt bs e ↔ x = e ∨ x ∈ bs := by
  have hb : x ∈ bs ↔ x ∈ bs.take (lowN bs e.path) ∨ x ∈ bs.drop (lowN bs e.path) := by
    conv => lhs; rw [← List.take_append_drop (lowN bs e.path) bs]
    exact List.mem_append
  unfold putAt
  rw [List.mem_append, List.mem_cons, hb]
  exact ⟨fun h => h.elim (fun h => .inr (.inl h)) (fun h => h.elim .inl (fun h => .inr (.inr h))), fun h => h.elim (fun h => .inr (.inl h)) (fun h => h.elim .inl (fun h => .inr (.inr h)))⟩
theorem mem_putE {es : List En} {e x : En} : x ∈ putE es e ↔ x = e ∨ (x ∈ es ∧ keepE e x = true) := by
  rw [putE, mem_putAt, baseE, List.mem_filter]
theorem low_take {p : Bs} : ∀ (bs : List En), ∀ x ∈ bs.take (lowN bs p), Op.bytesLess x.path p = true
  | [], x, hx => by simp [lowN] at hx
  | b :: bs, x, hx => by
    unfold lowN at hx
    rw [List.takeWhile_cons] at hx
    cases h : Op.bytesLess b.path p
    · rw [h] at hx; simp at hx
    · rw [h] at hx
      simp only [if_true, List.length_cons, List.take_succ_cons, List.mem_cons] at hx
      rcases hx with rfl | hx
      · exact h
      · exact low_take bs x hx
theorem low_drop {p : Bs} : ∀ (bs : List En), Rise bs → (∀ x ∈ bs, x.path ≠ p) → ∀ x ∈ bs.drop (lowN bs p), Op.bytesLess p x.path = true
  | [], _, _, x, hx => by simp at hx
  | b :: bs, hr, hn, x, hx => by
    unfold lowN at hx
    rw [List.takeWhile_cons] at hx
    cases h : Op.bytesLess b.path p
    · rw [h] at hx
      simp only [if_false, Bool.false_eq_true, List.length_nil, List.drop_zero] at hx
      have hb := bl_total _ _ h (hn b List.mem_cons_self)
      rcases List.mem_cons.1 hx with rfl | hx
      · exact hb
      · exact bl_trans _ _ _ hb ((List.pairwise_cons.1 hr).1 x hx)
    · rw [h] at hx
      simp only [if_true, List.length_cons, List.drop_succ_cons] at hx
      exact low_drop bs (List.pairwise_cons.1 hr).2 (fun y hy => hn y (List.mem_cons_of_mem _ hy)) x hx
theorem rise_putAt {bs : List En} {e : En} (h : Rise bs) (hn : ∀ x ∈ bs, x.path ≠ e.path) : Rise (putAt bs e) := by
  unfold putAt Rise
  rw [List.pairwise_append]
  refine ⟨h.sublist (List.take_sublist _ _), List.pairwise_cons.2 ⟨fun x hx => low_drop bs h hn x hx, h.sublist (List.drop_sublist _ _)⟩, fun x hx y hy => ?_⟩
  have h1 := low_take bs x hx
  rcases List.mem_cons.1 hy with rfl | hy
  · exact h1
  · exact bl_trans _ _ _ h1 (low_drop bs h hn y hy)
theorem rise_putE {es : List En} {e : En} (h : Rise es) : Rise (putE es e) := by
  refine rise_putAt (h.sublist List.filter_sublist) (fun x hx => ?_)
  have := (List.mem_filter.1 hx).2
  simp only [keepE, Bool.and_eq_true, Bool.not_eq_true', decide_eq_false_iff_not] at this
  exact this.1
theorem right_put {es : List En} {e : En} (h : Right es) (he : entFault e = 0) (hh : homeP es e.path = true) (hl : (putE es e).length ≤ 12) : Right (putE es e) := by
  have hpe := entFault_zero he
  refine ⟨hl, fun x hx => ?_, rise_putE h.rise, fun x hx => ?_⟩
  · rcases mem_putE.1 hx with rfl | ⟨hx, _⟩
    · exact he
    · exact h.ent x hx
  · rw [homeP_iff]
    rcases mem_putE.1 hx with rfl | ⟨hx, hk⟩
    · rcases homeP_iff.1 hh with h0 | ⟨d, hd, hdp, hdk⟩
      · exact .inl h0
      · by_cases h0 : parentP x.path = []
        · exact .inl h0
        · have hb := (parent_above hpe h0).2
          have hlen := below_len hb
          refine .inr ⟨d, mem_putE.2 (.inr ⟨hd, ?_⟩), hdp, hdk⟩
          have h1 : d.path ≠ x.path := fun e => by rw [hdp] at e; rw [e] at hlen; omega
          have h2 : belowB d.path x.path = false := by
            cases h3 : belowB d.path x.path
            · rfl
            · have := below_len h3; rw [hdp] at this; omega
          simp [keepE, h1, h2]
    · have hpx := entFault_zero (h.ent x hx)
      rcases homeP_iff.1 (h.home x hx) with h0 | ⟨d, hd, hdp, hdk⟩
      · exact .inl h0
      · by_cases h0 : parentP x.path = []
        · exact .inl h0
        · have hb := (parent_above hpx h0).2
          rw [← hdp] at hb
          simp only [keepE, Bool.and_eq_true, Bool.not_eq_true', decide_eq_false_iff_not, Bool.or_eq_true] at hk
          by_cases hde : d.path = e.path
          · rcases hk.2 with hk2 | hk2
            · exact .inr ⟨e, mem_putE.2 (.inl rfl), by rw [← hde]; exact hdp, hk2⟩
            · rw [hde] at hb; rw [hb] at hk2; cases hk2
          · refine .inr ⟨d, mem_putE.2 (.inr ⟨hd, ?_⟩), hdp, hdk⟩
            simp only [keepE, Bool.and_eq_true, Bool.not_eq_true', decide_eq_false_iff_not, Bool.or_eq_true]
            refine ⟨hde, hk.2.elim .inl (fun hk2 => .inr ?_)⟩
            cases h3 : belowB d.path e.path
            · rfl
            · rw [below_trans hb h3] at hk2; cases hk2
theorem right_rest {es : List En} {p : Bs} (h : Right es) (hp : faultP p = 0) : Right (restP es p) := by
  refine ⟨Nat.le_trans (restP_len es p) h.len, fun x hx => h.ent x (List.mem_filter.1 hx).1, h.rise.sublist List.filter_sublist, fun x hx => ?_⟩
  obtain ⟨hx, hk⟩ := List.mem_filter.1 hx
  have hpx := entFault_zero (h.ent x hx)
  rw [homeP_iff]
  rcases homeP_iff.1 (h.home x hx) with h0 | ⟨d, hd, hdp, hdk⟩
  · exact .inl h0
  · by_cases h0 : parentP x.path = []
    · exact .inl h0
    · have hb := (parent_above hpx h0).2
      rw [← hdp] at hb
      have hpd := entFault_zero (h.ent d hd)
      refine .inr ⟨d, List.mem_filter.2 ⟨hd, ?_⟩, hdp, hdk⟩
      simp only [atBelow, isBelow_eq hpx hp, Bool.not_eq_true', Bool.or_eq_false_iff, decide_eq_false_iff_not] at hk
      simp only [atBelow, isBelow_eq hpd hp, Bool.not_eq_true', Bool.or_eq_false_iff, decide_eq_false_iff_not]
      refine ⟨fun e => ?_, ?_⟩
      · rw [e] at hb; rw [hb] at hk; exact absurd hk.2 (by simp)
      · cases h3 : belowB d.path p
        · rfl
        · rw [below_trans hb h3] at hk; exact absurd hk.2 (by simp)
theorem right_nil : Right [] := ⟨by simp, fun e he => by simp at he, List.Pairwise.nil, fun e he => by simp at he⟩

/-- What the program's PutEntry answers. -/
def putCodeP (es : List En) (e : En) : Int :=
  if layFaultP es = 0 then (if entFault e = 0 then (if homeP es e.path then (if 12 < (putE es e).length then 2 else 0) else 9) else entFault e) else layFaultP es
def putListP (es : List En) (e : En) : List En := if putCodeP es e = 0 then putE es e else []
theorem putP_zero {es : List En} {e : En} (h : putCodeP es e = 0) : Right es ∧ entFault e = 0 ∧ homeP es e.path = true ∧ (putE es e).length ≤ 12 ∧ Right (putE es e) := by
  unfold putCodeP at h
  by_cases h1 : layFaultP es = 0
  · rw [if_pos h1] at h
    by_cases h2 : entFault e = 0
    · rw [if_pos h2] at h
      cases h3 : homeP es e.path
      · rw [h3] at h; simp at h
      · rw [h3] at h
        by_cases h4 : 12 < (putE es e).length
        · rw [if_pos rfl, if_pos h4] at h; cases h
        · have hR := right_P.1 h1
          exact ⟨hR, h2, rfl, by omega, right_put hR h2 h3 (by omega)⟩
    · rw [if_neg h2] at h; exact absurd h h2
  · rw [if_neg h1] at h; exact absurd h h1

end Go.Proofs.YtjkmbicedbdifaaGreat

namespace Go.Proofs.YtjkmbicedbdifaaGreat
set_option linter.unusedVariables false

/-- The program tells the fault that the model tells. -/
def Good (es : List En) : Prop := layFaultP es = layFault es
theorem good_right {es : List En} (h : Right es) : Good es := by rw [Good, right_P.2 h, right_E.2 h]
theorem good_many {es : List En} (h : 12 < es.length) : Good es := by rw [Good, layFaultP_many h, layFault_many h]
theorem good_of {es : List En} (h : ¬ 12 < es.length) (hh : layFromH (homeP es) none es = layFromH (homeE es) none es) : Good es := by
  rw [Good, layFaultP, layFault, if_neg h, if_neg h, layFrom_H, hh]
theorem parent_ne {p : Bs} (h : faultP p = 0) (h0 : parentP p ≠ []) : parentP p ≠ p := by
  have := below_len (parent_above h h0).2
  intro e
  rw [e] at this
  omega
theorem good_snoc {es : List En} {e : En} (h : Right es) : Good (es ++ [e]) := by
  by_cases hl : 12 < (es ++ [e]).length
  · exact good_many hl
  · refine good_of hl (layFromH_congr (fun x hx hxe => ?_))
    rcases List.mem_append.1 hx with hx | hx
    · have h1 := h.home x hx
      have h2 : homeP (es ++ [e]) x.path = true := by
        rw [homeP_iff] at h1 ⊢
        rcases h1 with h1 | ⟨d, hd, h1⟩
        · exact .inl h1
        · exact .inr ⟨d, List.mem_append_left _ hd, h1⟩
      rw [h2]
      symm
      rw [homeP_eq h.rise] at h1
      unfold homeE at h1 ⊢
      by_cases h0 : parentP x.path = []
      · simp [h0]
      · rw [if_neg h0] at h1 ⊢
        cases hf : findE es (parentP x.path) with
        | none => rw [hf] at h1; simp at h1
        | some d =>
          rw [hf] at h1
          have : findE (es ++ [e]) (parentP x.path) = some d := by
            rw [findE, List.find?_append]
            have hf' : List.find? (fun y : En => decide (y.path = parentP x.path)) es = some d := hf
            rw [hf']
            rfl
          rw [this]
          exact h1
    · simp only [List.mem_singleton] at hx
      subst hx
      by_cases h0 : parentP x.path = []
      · simp [homeP, homeE, h0]
      · have hne := parent_ne (entFault_zero hxe) h0
        have e1 : homeP (es ++ [x]) x.path = homeP es x.path := by
          simp [homeP, h0, hasDir, hne.symm]
        have e2 : homeE (es ++ [x]) x.path = homeE es x.path := by
          have : findE (es ++ [x]) (parentP x.path) = findE es (parentP x.path) := by
            simp [findE, List.find?_append, hne.symm]
          simp only [homeE, this]
        rw [e1, e2, homeP_eq h.rise]
theorem good_set {r0 e : En} {tl : List En} (h : Right (r0 :: tl)) : Good (e :: tl) := by
  by_cases hl : 12 < (e :: tl).length
  · exact good_many hl
  · have hrt : Rise tl := (List.pairwise_cons.1 h.rise).2
    by_cases hr : Rise (e :: tl)
    · exact good_of hl (layFromH_congr (fun x hx _ => homeP_eq hr x.path))
    · refine good_of hl ?_
      have hb : entBadH (homeP (e :: tl)) none e = entBadH (homeE (e :: tl)) none e := by
        unfold entBadH
        by_cases he : entFault e = 0
        · have : homeP (e :: tl) e.path = homeE (e :: tl) e.path := by
            by_cases h0 : parentP e.path = []
            · simp [homeP, homeE, h0]
            · have hne := parent_ne (entFault_zero he) h0
              have e1 : homeP (e :: tl) e.path = homeP tl e.path := by simp [homeP, h0, hasDir, hne.symm]
              have e2 : homeE (e :: tl) e.path = homeE tl e.path := by
                have : findE (e :: tl) (parentP e.path) = findE tl (parentP e.path) := by simp [findE, hne.symm]
                simp only [homeE, this]
              rw [e1, e2, homeP_eq hrt]
          rw [this]
        · simp [he]
      simp only [layFromH]
      rw [hb]
      by_cases hz : entBadH (homeE (e :: tl)) none e = 0
      · rw [if_pos hz, if_pos hz]
        cases tl with
        | nil => rfl
        | cons t1 r =>
          have ht : entFault t1 = 0 := h.ent t1 (by simp)
          have hlow : lowE (some e) t1 = true := by
            cases hlo : lowE (some e) t1
            · exfalso
              refine hr (List.pairwise_cons.2 ⟨fun y hy => ?_, hrt⟩)
              have h1 := lowE_some hlo
              rcases List.mem_cons.1 hy with rfl | hy
              · exact h1
              · exact bl_trans _ _ _ h1 ((List.pairwise_cons.1 hrt).1 y hy)
            · rfl
          simp only [layFromH]
          have b1 : ∀ H : Bs → Bool, entBadH H (some e) t1 = 1 := fun H => by simp [entBadH, ht, hlow]
          rw [b1, b1]
          rfl
      · rw [if_neg hz, if_neg hz]
theorem good_put {es : List En} {e : En} (h : Good es) : putCodeP es e = putCode es e := by
  unfold putCodeP putCode
  rw [h]
  by_cases h0 : layFault es = 0
  · rw [if_pos h0, if_pos h0, homeP_eq (right_E.1 h0).rise]
  · rw [if_neg h0, if_neg h0]

end Go.Proofs.YtjkmbicedbdifaaGreat

namespace Go.Proofs.YtjkmbicedbdifaaGreat
open Go.RowKit
set_option linter.unusedVariables false

/-- One byte of a digest, as both texts reckon it. -/
def fnvStep (h z : Int) : Int := bits BinOp.xor IntKind.u32 h z * 16777619 % 4294967296
def fnv (zs : List Int) : Int := zs.foldl fnvStep 2166136261
/-- The digest of the bytes zs. -/
def digest (zs : List Int) : Int := wrap64 (bits BinOp.xor IntKind.u32 (fnv zs) ((zs.length : Int) * 65536 % 4294967296))
theorem fnv_step {zs : List Int} {k : Nat} {z : Int} (hk : k < zs.length) (hz : zs.getD k 0 = z) : fnv (zs.take (k + 1)) = fnvStep (fnv (zs.take k)) z := by
  unfold fnv
  rw [List.take_succ_eq_append_getElem hk, List.foldl_append]
  simp [List.getD_eq_getElem?_getD, hk] at hz
  simp [hz]

set_option maxHeartbeats 400000 in
theorem specDigestOf_any (a : Option Addr) (cap : Nat) (zs : List Int) (w : World) (h : Reads .u8 w a zs) (hu : U8 zs) (hl : zs.length ≤ 1048576) :
    Calls Tryz.prog 170 #[.slice a zs.length cap] w fun e w' => e = .returned (.int .i64 (digest zs)) ∧ w' = w := by
  go_enter Tryz.func170, Tryz.ntmps170
  go_wp2
  go_loop [3, 4] (fun h i => ∃ k : Nat, k ≤ zs.length ∧ i = .int .i64 k ∧ h = .int .u32 (fnv (zs.take k))) (fun _ i => zs.length - (intOf i).toNat)
  case atStart => exact ⟨0, Nat.zero_le _, rfl, rfl⟩
  case round =>
    obtain ⟨k, hk, rfl, rfl⟩ := hrel
    generalize hx : fnv (zs.take k) = x
    have HX := hide hx
    clear hx
    by_cases hlt : k < zs.length
    · obtain ⟨b, off, rfl, hb, hc⟩ := h (by intro e; simp [e] at hlt)
      have hz01 := hu.get k
      have hc1 := hc k hlt
      generalize hz : zs.getD k 0 = z at hz01 hc1
      have HZ := hide hz
      have HC := hide hc
      clear hc h hz
      go_wp2
      go_round
      case rel => exact ⟨k + 1, by omega, by go_num, by rw [fnv_step hlt HZ.out, HX.out]; rfl⟩
      case measure => simp [intOf]; omega
    · go_wp2
      go_ret
      exact ⟨ret_int (by unfold digest; rw [← HX.out, List.take_of_length_le (by omega)]), rfl⟩


theorem bits_u32 (op : BinOp) (x y : Int) : 0 ≤ bits op .u32 x y ∧ bits op .u32 x y < 4294967296 := by
  unfold bits
  simp only [IntKind.wrap_u32]
  omega
theorem digest_range (zs : List Int) : 0 ≤ digest zs ∧ digest zs ≤ 4294967295 := by
  have h := bits_u32 .xor (fnv zs) ((zs.length : Int) * 65536 % 4294967296)
  unfold digest wrap64
  omega

end Go.Proofs.YtjkmbicedbdifaaGreat

namespace Go.Proofs.YtjkmbicedbdifaaGreat
open Go.RowKit
set_option linter.unusedVariables false

/-- The slice at address a (n elements) reads as n byte slices, slice i reading as P i. -/
def Rd2 (w : World) (a : Option Addr) (P : Nat → List Int) (n : Nat) : Prop :=
  0 < n → ∃ (b off : Nat) (A : Nat → Option Addr) (C : Nat → Nat), a = some ⟨b, off, none⟩ ∧ b < w.heap.size ∧ ∀ i, i < n → w.cell? ⟨b, off + i, none⟩ = some (.slice (A i) (P i).length (C i)) ∧ Reads .u8 w (A i) (P i)

theorem Rd2.below {w w' : World} {a : Option Addr} {P : Nat → List Int} {n : Nat} (h : Rd2 w a P n) (hk : Below w.heap.size w w') : Rd2 w' a P n := by
  intro hn
  obtain ⟨b, off, A, C, e, hb, hc⟩ := h hn
  exact ⟨b, off, A, C, e, Nat.lt_of_lt_of_le hb hk.size, fun i hi => ⟨(hk.cell (p := ⟨b, off + i, none⟩) hb).trans (hc i hi).1, (hc i hi).2.below hk⟩⟩

theorem reads_of_ownsRow {w : World} {B : Nat} {e : TypeId} {k : IntKind} {g n c : Nat} {zs : List Int} (h : w.ownsRow B e 1 (.slice (some ⟨g, 0, none⟩) n c) n (zs.map (Value.int k))) (hn : n = zs.length) : Own k w (some ⟨g, 0, none⟩) zs := by
  intro hz
  have h0 : 0 < n := by rw [hn]; exact List.length_pos_iff.2 hz
  refine ⟨g, 0, rfl, (h.lt g rfl).2, fun i hi => ⟨?_, h.frozenAt _⟩⟩
  rw [Nat.zero_add, h.cellAt i (by omega)]
  simp [List.getD_eq_getElem?_getD, hi]

theorem Grow2.shape {B : Nat} {w : World} {v : Value} {P : Nat → List Int} {j : Nat} (h : Grow2 B w v P j) : ∃ a c, v = .slice a j c := by
  obtain ⟨A, C, h1, h2, h3⟩ := h
  exact ownsRow_shape h1

theorem Grow2.rd {B : Nat} {w : World} {a : Option Addr} {c : Nat} {P : Nat → List Int} {n : Nat} (h : Grow2 B w (.slice a n c) P n) : Rd2 w a P n := by
  intro hn
  obtain ⟨A, C, h1, h2, h3⟩ := h
  rcases h1.2 with ⟨h', h0⟩ | ⟨g, cap, cur, h', hb, hh, hnc, hcm, hcs, htake⟩
  · omega
  · simp only [Value.slice.injEq, true_and] at h'
    obtain ⟨rfl, rfl⟩ := h'
    refine ⟨g, 0, fun i => some ⟨A i, 0, none⟩, C, rfl, (h1.lt g rfl).2, fun i hi => ⟨?_, (reads_of_ownsRow (h2 i hi) rfl).reads⟩⟩
    rw [Nat.zero_add, h1.cellAt i (by omega)]
    simp [hi]


theorem Reads.drewN {k : IntKind} {w : World} {a : Option Addr} {zs : List Int} (h : Reads k w a zs) (n : Nat) : Reads k (w.drewN n) a zs := h


/-- The same, the slices' blocks below T. -/
def G2 (B T : Nat) (w : World) (v : Value) (P : Nat → List Int) (n : Nat) : Prop :=
  ∃ A C : Nat → Nat, w.ownsRow B 22 1 v n ((List.range n).map fun i => .slice (some ⟨A i, 0, none⟩) (P i).length (C i)) ∧
    (∀ i, i < n → w.ownsRow B 5 1 (.slice (some ⟨A i, 0, none⟩) (P i).length (C i)) (P i).length ((P i).map (Value.int .u8))) ∧
    (∀ i i', i < n → i' < n → A i = A i' → i = i') ∧ (∀ i, i < n → A i < T) ∧ ∀ b, v.ownBlock = some b → b < T
theorem Grow2.fit {B : Nat} {w : World} {v : Value} {P : Nat → List Int} {n : Nat} (h : Grow2 B w v P n) : G2 B w.heap.size w v P n := by
  obtain ⟨A, C, h1, h2, h3⟩ := h
  exact ⟨A, C, h1, h2, h3, fun i hi => ((h2 i hi).lt (A i) rfl).2, fun b hb => (h1.lt b hb).2⟩
theorem G2.grow {B T : Nat} {w : World} {v : Value} {P : Nat → List Int} {n : Nat} (h : G2 B T w v P n) : Grow2 B w v P n := by
  obtain ⟨A, C, h1, h2, h3, _⟩ := h
  exact ⟨A, C, h1, h2, h3⟩
theorem G2.kept {S : Nat → Prop} {B T : Nat} {w w' : World} {v : Value} {P : Nat → List Int} {n : Nat} (h : G2 B T w v P n) (hk : Kept S w w') (hS : ∀ b, B ≤ b → b < T → ¬ S b) : G2 B T w' v P n := by
  obtain ⟨A, C, h1, h2, h3, h4, h5⟩ := h
  exact ⟨A, C, ownsRow_kept h1 hk (fun b hb => hS b (h1.lt b hb).1 (h5 b hb)), fun i hi => ownsRow_kept (h2 i hi) hk (fun b hb => hS b ((h2 i hi).lt b hb).1 (by simp only [Value.ownBlock, Option.some.injEq] at hb; subst hb; exact h4 i hi)), h3, h4, h5⟩
theorem G2.below {B T : Nat} {w w' : World} {v : Value} {P : Nat → List Int} {n : Nat} (h : G2 B T w v P n) (hk : Below w.heap.size w w') : G2 B T w' v P n :=
  h.kept (S := fun _ => False) (Kept.of_below hk) (fun _ _ _ => id)

/-- What is written into slice i. -/
def marked (k : Int) (P : Nat → List Int) (i : Nat) : List Int := marks (k + ahead P i) (P i).length

theorem G2.congr {B T : Nat} {w : World} {v : Value} {P Q : Nat → List Int} {n : Nat} (h : G2 B T w v P n) (hQ : ∀ i, i < n → Q i = P i) : G2 B T w v Q n := by
  obtain ⟨A, C, h1, h2, h3, h45⟩ := h
  refine ⟨A, C, ?_, fun i hi => by rw [hQ i hi]; exact h2 i hi, h3, h45⟩
  have e : (List.range n).map (fun i => Value.slice (some ⟨A i, 0, none⟩) (Q i).length (C i)) = (List.range n).map (fun i => Value.slice (some ⟨A i, 0, none⟩) (P i).length (C i)) := by
    apply List.map_congr_left
    intro i hi
    rw [hQ i (List.mem_range.1 hi)]
  rw [e]; exact h1

/-- One slice is marked: the others stay. -/
theorem G2.mark {B T : Nat} {w w' : World} {v : Value} {P : Nat → List Int} {n j : Nat} {A C : Nat → Nat} {ys : List Int}
    (h1 : w.ownsRow B 22 1 v n ((List.range n).map fun i => .slice (some ⟨A i, 0, none⟩) (P i).length (C i)))
    (h2 : ∀ i, i < n → w.ownsRow B 5 1 (.slice (some ⟨A i, 0, none⟩) (P i).length (C i)) (P i).length ((P i).map (Value.int .u8)))
    (h3 : ∀ i i', i < n → i' < n → A i = A i' → i = i') (h45 : (∀ i, i < n → A i < T) ∧ ∀ b, v.ownBlock = some b → b < T) (hj : j < n) (hl : ys.length = (P j).length)
    (ho : Own .u8 w' (some ⟨A j, 0, none⟩) ys) (hk : Kept (blkOf (some ⟨A j, 0, none⟩)) w w') (hs : SameShape w w') (Q : Nat → List Int) (hQ : ∀ i, i < n → Q i = if i = j then ys else P i) :
    G2 B T w' v Q n := by
  have hlen : ∀ i, i < n → (Q i).length = (P i).length := fun i hi => by
    rw [hQ i hi]; by_cases e : i = j
    · subst e; rw [if_pos rfl]; exact hl
    · rw [if_neg e]
  refine ⟨A, C, ?_, ?_, h3, h45⟩
  · have e : (List.range n).map (fun i => Value.slice (some ⟨A i, 0, none⟩) (Q i).length (C i)) = (List.range n).map (fun i => Value.slice (some ⟨A i, 0, none⟩) (P i).length (C i)) := by
      apply List.map_congr_left
      intro i hi
      rw [hlen i (List.mem_range.1 hi)]
    rw [e]
    exact ownsRow_kept h1 hk (fun b hb hS => ownsRow_apart h1 (h2 j hj) (by decide) hb (by simpa [blkOf, Value.ownBlock] using hS))
  · intro i hi
    by_cases e : i = j
    · subst e
      rw [hQ i hi, if_pos rfl, hl]
      refine own_back (h2 i hi) hs (by simp [hl]) (fun t ht => ?_)
      obtain ⟨b, off, e1, hb, hc⟩ := ho (by intro e; rw [e] at hl; simp at hl; omega)
      simp only [Option.some.injEq, Addr.mk.injEq, and_true] at e1
      obtain ⟨rfl, rfl⟩ := e1
      have := (hc t (by omega)).1
      rw [Nat.zero_add] at this
      rw [this]
      have ht2 : t < ys.length := by omega
      simp [List.getD_eq_getElem?_getD, ht2]
    · rw [hQ i hi, if_neg e]
      exact ownsRow_kept (h2 i hi) hk (fun b hb hS => by
        simp only [Value.ownBlock, Option.some.injEq] at hb
        simp only [blkOf, Option.map_some, Option.some.injEq] at hS
        exact e (h3 i j hi hj (by omega)))






theorem U8.piece {zs : List Int} (h : U8 zs) (i : Nat) : U8 (piece zs i) := fun z hz => h z (List.mem_of_mem_drop (List.mem_of_mem_take hz))

theorem Grow2.at {B : Nat} {w : World} {a : Option Addr} {c : Nat} {P : Nat → List Int} {n j : Nat} (h : Grow2 B w (.slice a n c) P n) (hj : j < n) :
    ∃ g x d, a = some ⟨g, 0, none⟩ ∧ w.cell? ⟨g, j, none⟩ = some (.slice x (P j).length d) ∧ Reads .u8 w x (P j) := by
  obtain ⟨A, C, h1, h2, h3⟩ := h
  rcases h1.2 with ⟨_, h0⟩ | ⟨g, cap, cur, h', hb, hh, _⟩
  · omega
  · simp only [Value.slice.injEq, true_and] at h'
    obtain ⟨rfl, rfl⟩ := h'
    refine ⟨g, _, C j, rfl, ?_, (reads_of_ownsRow (h2 j hj) rfl).reads⟩
    rw [h1.cellAt j (by omega)]
    simp [hj]

end Go.Proofs.YtjkmbicedbdifaaGreat

namespace Go.Proofs.YtjkmbicedbdifaaGreat
open Go.RowKit
set_option linter.unusedVariables false

/-- v is a row of the int64s ds in a block of its own, from B on and below T. -/
def G1 (B T : Nat) (w : World) (v : Value) (ds : List Int) : Prop :=
  w.ownsRow B 2 1 v ds.length (ds.map (Value.int .i64)) ∧ ∀ b, v.ownBlock = some b → b < T
theorem G1.kept {S : Nat → Prop} {B T : Nat} {w w' : World} {v : Value} {ds : List Int} (h : G1 B T w v ds) (hk : Kept S w w') (hS : ∀ b, B ≤ b → b < T → ¬ S b) : G1 B T w' v ds :=
  ⟨ownsRow_kept h.1 hk (fun b hb => hS b (h.1.lt b hb).1 (h.2 b hb)), h.2⟩
theorem G1.below {B T : Nat} {w w' : World} {v : Value} {ds : List Int} (h : G1 B T w v ds) (hk : Below w.heap.size w w') : G1 B T w' v ds :=
  h.kept (S := fun _ => False) (Kept.of_below hk) (fun _ _ _ => id)
theorem G1.mk {B : Nat} {w : World} {v : Value} {ds : List Int} {n : Nat} (h : w.ownsRow B 2 1 v n (ds.map (Value.int .i64))) (hn : n = ds.length) : G1 B w.heap.size w v ds := by
  subst hn
  exact ⟨h, fun b hb => (h.lt b hb).2⟩
theorem G1.own {B T : Nat} {w : World} {a : Option Addr} {c : Nat} {ds : List Int} (h : G1 B T w (.slice a ds.length c) ds) : Own .i64 w a ds := ownsRow_own h.1 rfl
theorem G1.mark {B T : Nat} {w w' : World} {a : Option Addr} {c : Nat} {ds ys : List Int} (h : G1 B T w (.slice a ds.length c) ds) (hl : ys.length = ds.length) (ho : Own .i64 w' a ys) (hs : SameShape w w') : G1 B T w' (.slice a ds.length c) ys := by
  obtain ⟨h1, h2⟩ := h
  refine ⟨?_, h2⟩
  rw [hl]
  rcases h1.2 with ⟨h', h0⟩ | ⟨g, cap, cur, h', hb, hh, hnc, hcm, hcs, htake⟩
  · have e : ys = [] := List.eq_nil_of_length_eq_zero (by omega)
    have e2 : ds = [] := List.eq_nil_of_length_eq_zero h0
    subst e e2
    rw [h']
    exact World.ownsRow_nil _ _ _ _
  · simp only [Value.slice.injEq, true_and] at h'
    obtain ⟨rfl, rfl⟩ := h'
    refine own_back h1 hs (by simp [hl]) (fun t ht => ?_)
    obtain ⟨b, off, e1, hb, hc⟩ := ho (by intro e; rw [e] at hl; simp at hl; omega)
    simp only [Option.some.injEq, Addr.mk.injEq, and_true] at e1
    obtain ⟨rfl, rfl⟩ := e1
    have := (hc t (by omega)).1
    rw [Nat.zero_add] at this
    rw [this]
    have ht2 : t < ys.length := by omega
    simp [List.getD_eq_getElem?_getD, ht2]




end Go.Proofs.YtjkmbicedbdifaaGreat

namespace Go.Proofs.YtjkmbicedbdifaaGreat
open Go.RowKit
set_option linter.unusedVariables false

/-- The digests of the first j pieces. -/
def digs (zs : List Int) (j : Nat) : List Int := (List.range j).map fun i => digest (piece zs i)
theorem digs_length (zs : List Int) (j : Nat) : (digs zs j).length = j := by simp [digs]
theorem digs_succ (zs : List Int) (j : Nat) : (digs zs (j + 1)).map (Value.int .i64) = (digs zs j).map (Value.int .i64) ++ [.int .i64 (digest (piece zs j))] := by
  simp [digs, List.range_succ]
theorem Grow2.kept_own {B B' : Nat} {w w' : World} {v v' : Value} {P : Nat → List Int} {n n' size : Nat} {e : TypeId} {xs : List Value} (h : Grow2 B w v P n) (ho : w.ownsRow B' e size v' n' xs) (h1 : e ≠ 22) (h2 : e ≠ 5) (hk : Kept (fun b => v'.ownBlock = some b) w w') : Grow2 B w' v P n := by
  obtain ⟨A, C, k1, k2, k3⟩ := h
  exact ⟨A, C, ownsRow_kept k1 hk (fun b hb hS => ownsRow_apart ho k1 h1 hS hb), fun i hi => ownsRow_kept (k2 i hi) hk (fun b hb hS => ownsRow_apart ho (k2 i hi) h2 hS hb), k3⟩

set_option maxHeartbeats 800000 in
theorem l1Digests_any (a : Option Addr) (cap : Nat) (zs : List Int) (w : World) (h : Reads .u8 w a zs) (hu : U8 zs) (hcap : zs.length ≤ cap) (hl : zs.length ≤ 24) :
    Calls Tryz.prog 152 #[.slice a zs.length cap] w fun e w' => ∃ v, e = .returned v ∧ w'.ownsRow w.heap.size 2 1 v (cut zs).length ((digs zs (cut zs).length).map (Value.int .i64)) ∧ Below w.heap.size w w' := by
  obtain ⟨i1, ki, kz0, kz1, kz2⟩ := info_parts Tryz.infoI64
  have HR := hide h
  have HU := hide hu
  clear h hu
  have hcl : (cut zs).length ≤ 3 := by rw [cut_length]; omega
  go_enter Tryz.func152, Tryz.ntmps152
  go_wp2_with fail
  refine (l1Cut_any a cap zs _ (HR.out.below (below_alloc _ _)) hcap (by omega)).mono ?_
  rintro e w1 ⟨pv, rfl, hG, hb1⟩
  obtain ⟨pa, pc, rfl⟩ := hG.shape
  generalize hN : (cut zs).length = N at *
  have HN := hide hN
  clear hN
  have O1 := hide (ownsRow_below (World.ownsRow_made (base := w.heap.size) (e := 2) (size := 1) w #[] 0 (Nat.le_refl _) (Nat.zero_le _) rfl) hb1)
  have HG := hide (hG.mono (B' := w.heap.size) (by simp))
  have HB := hide (below_next (below_alloc w (.cells #[] 2)) hb1)
  clear hG hb1
  go_wp2_with fail
  go_loopw [3, 5] (fun v i wr => ∃ j : Nat, j ≤ N ∧ i = .int .i64 j ∧ wr.ownsRow w.heap.size 2 1 v j ((digs zs j).map (Value.int .i64)) ∧ Grow2 w.heap.size wr (.slice pa N pc) (piece zs) N ∧ Below w.heap.size w wr) (fun _ i _ => N - (intOf i).toNat)
  case atStart => exact ⟨0, Nat.zero_le _, rfl, O1.out, HG.out, HB.out⟩
  case round =>
    obtain ⟨j, hj, rfl, hown, hG, hbel⟩ := hrel
    by_cases hlt : j < N
    · obtain ⟨g, x, d, rfl, hc0, hr0⟩ := hG.at hlt
      have hpl : (piece zs j).length ≤ 1048576 := by rw [piece_length]; omega
      have hm1 : j + 1 ≤ maxLen := by unfold maxLen; omega
      have hm2 : (j + 1) * 8 ≤ 140737488355328 := by omega
      have hsz := hbel.size
      have HR0 := hide hr0
      have HO := hide hown
      have HGj := hide hG
      have HBj := hide hbel
      clear hr0 hown hG hbel
      go_wp2_with (first | (go_at_call 170; refine (specDigestOf_any _ _ (piece zs j) _ HR0.out (HU.out.piece j) hpl).mono ?_; rintro e w1' ⟨rfl, rfl⟩) | (at_builtin; refine wpList_append_one rfl (.tmp 15) (.tmp 21) 38 rfl w.heap.size 2 i1 (.int .i64 0) 1 8 Tryz.underlying38 ki kz0 kz1 kz2 rfl (by decide) _ _ _ rfl HO.out rfl rfl (by intro u hu; simp at hu; subst hu; rfl) hm1 hm2 hsz ?_; intro v' w2 hown2 hkept; have O2 := hide hown2; have K2 := hide hkept; clear hown2 hkept))
      go_roundw
      case rel => exact ⟨j + 1, by omega, by go_num, by rw [digs_succ]; exact O2.out, HGj.out.kept_own HO.out (by decide) (by decide) K2.out, Kept.below_own HBj.out hsz HO.out K2.out⟩
      case measure => simp [intOf]; omega
    · have hje : j = N := by omega
      subst hje
      go_wp2
      go_ret
      exact ⟨_, rfl, by rw [HN.out]; exact hown, hbel⟩





end Go.Proofs.YtjkmbicedbdifaaGreat

namespace Go.Proofs.YtjkmbicedbdifaaGreat
open Go.RowKit Go.Maps
set_option linter.unusedVariables false

theorem Kept.four (w : World) (b : Nat) (u0 u1 u2 u3 : Value) : Kept (fun x => x = b) w ((((w.setCell ⟨b, 0, none⟩ u0).setCell ⟨b, 1, none⟩ u1).setCell ⟨b, 2, none⟩ u2).setCell ⟨b, 3, none⟩ u3) :=
  Kept.setCell (S := fun x => x = b) (p := ⟨b, 3, none⟩) (Kept.setCell (S := fun x => x = b) (p := ⟨b, 2, none⟩) (Kept.two w b 0 1 u0 u1) (fun _ => rfl) u2) (fun _ => rfl) u3
theorem digs_len (zs : List Int) : (digs zs (cut zs).length).length = (cut zs).length := by simp [digs]
/-- The entry of a file. -/
def fileE (p : Bs) (zs : List Int) : En := ⟨p, 1, zs.length, digs zs (cut zs).length⟩

set_option maxRecDepth 100000 in
set_option maxHeartbeats 1600000 in
theorem l4File_any (p : Bs) (a : Option Addr) (cap : Nat) (zs : List Int) (w : World) (h : Reads .u8 w a zs) (hu : U8 zs) (hcap : zs.length ≤ cap) (hl : zs.length ≤ 24) :
    Calls Tryz.prog 127 #[.string (str p), .slice a zs.length cap] w fun r w' => ∃ av cv, r = .returned (.agg #[.string (str p), .int .i64 1, .int .i64 zs.length, .slice av (cut zs).length cv]) ∧ w'.ownsRow w.heap.size 2 1 (.slice av (cut zs).length cv) (cut zs).length ((digs zs (cut zs).length).map (Value.int .i64)) ∧ Below w.heap.size w w' := by
  have HD := hide (fun u hb => l1Digests_any a cap zs u (h.below hb) hu hcap hl)
  clear h hu
  go_enter Tryz.func127, Tryz.ntmps127
  have B0 := hide (below_alloc w (.cells #[.string ⟨#[]⟩, .int .i64 0, .int .i64 0, .slice none 0 0] 40))
  have F0 := hide (Four.new w (.string ⟨#[]⟩) (.int .i64 0) (.int .i64 0) (.slice none 0 0) 40)
  have Z0 := hide (show ∀ i, i < 4 → (w.alloc (.cells #[.string ⟨#[]⟩, .int .i64 0, .int .i64 0, .slice none 0 0] 40)).frozen? ⟨w.heap.size, i, none⟩ = false from fun i hi => by simp)
  go_wp2_with fail
  refine (HD.out _ B0.out).mono ?_
  rintro r w1 ⟨v, rfl, hG, hb1⟩
  obtain ⟨av, cv, rfl⟩ := ownsRow_shape hG
  have hlt0 := F0.out.lt
  have B1 := hide (below_next B0.out hb1)
  obtain ⟨f0, f1, f2, f3⟩ := F0.out.below hb1
  have z0 := (hb1.frozen (p := ⟨w.heap.size, 0, none⟩) hlt0).trans (Z0.out 0 (by omega))
  have z1 := (hb1.frozen (p := ⟨w.heap.size, 1, none⟩) hlt0).trans (Z0.out 1 (by omega))
  have z2 := (hb1.frozen (p := ⟨w.heap.size, 2, none⟩) hlt0).trans (Z0.out 2 (by omega))
  have z3 := (hb1.frozen (p := ⟨w.heap.size, 3, none⟩) hlt0).trans (Z0.out 3 (by omega))
  have GG := hide hG
  clear hG hb1 B0 F0 Z0
  go_wp2_with fail
  refine bodyPost_ret (v := .agg #[.string (str p), .int .i64 1, .int .i64 zs.length, .slice av (cut zs).length cv]) (by simp [results, Tryz.results127, go_sem, f0, f1, f2, f3]) rfl ⟨av, cv, rfl, ?_, (((B1.out.setCell (Nat.le_refl _) _).setCell (Nat.le_refl _) _).setCell (Nat.le_refl _) _).setCell (Nat.le_refl _) _⟩
  exact ownsRow_mono (ownsRow_kept (S := fun b => b = w.heap.size) GG.out (Kept.four _ _ _ _ _ _) (fun b hb e => by have := (GG.out.lt b hb).1; omega)) (by omega)

end Go.Proofs.YtjkmbicedbdifaaGreat

namespace Go.Proofs.YtjkmbicedbdifaaGreat
set_option linter.unusedVariables false

/-- A file, or a plain directory. -/
def treeK (k : Int) : Bool := decide (k = 1 ∨ k = 2)
/-- What the program's TreeFault answers. -/
def treFaultP (es : List En) : Int := if 40 < es.length then 2 else if es.all (fun e => treeK e.kind) then layFromH (homeP es) none es else 1
/-- What the model's answers. -/
def treFault (es : List En) : Int := if 40 < es.length then 2 else if es.all (fun e => treeK e.kind) then layFrom es none es else 1
/-- A tree without faults. -/
structure RightT (es : List En) : Prop where
  len : es.length ≤ 40
  kind : ∀ e ∈ es, treeK e.kind = true
  ent : ∀ e ∈ es, entFault e = 0
  rise : Rise es
  home : ∀ e ∈ es, homeP es e.path = true
theorem rightT_nil : RightT [] := ⟨by simp, fun e he => by simp at he, fun e he => by simp at he, List.Pairwise.nil, fun e he => by simp at he⟩
theorem rightT_P {es : List En} : treFaultP es = 0 ↔ RightT es := by
  unfold treFaultP
  by_cases h : 40 < es.length
  · rw [if_pos h]
    exact ⟨fun x => (by cases x), fun x => (by have := x.len; omega)⟩
  · rw [if_neg h]
    cases hk : es.all (fun e => treeK e.kind)
    · refine ⟨fun x => (by simp at x), fun x => ?_⟩
      exfalso
      have := List.all_eq_true.2 x.kind
      rw [this] at hk; cases hk
    · rw [if_pos rfl, layFromH_zero]
      exact ⟨fun ⟨a, b, _⟩ => ⟨by omega, List.all_eq_true.1 hk, fun e he => (a e he).1, b, fun e he => (a e he).2⟩, fun x => ⟨fun e he => ⟨x.ent e he, x.home e he⟩, x.rise, fun q hq => by cases hq⟩⟩
/-- The program and the model tell the same fault of the entries, one by one. -/
def GoodH (es : List En) : Prop := layFromH (homeP es) none es = layFromH (homeE es) none es
theorem GoodH.tree {es : List En} (h : GoodH es) : treFaultP es = treFault es := by
  unfold treFaultP treFault
  rw [layFrom_H, h]
theorem GoodH.good {es : List En} (h : GoodH es) : Good es := by
  by_cases hl : 12 < es.length
  · exact good_many hl
  · exact good_of hl h
theorem goodH_rise {es : List En} (h : Rise es) : GoodH es := layFromH_congr (fun x hx _ => homeP_eq h x.path)
theorem rightT_E {es : List En} (h : GoodH es) : treFault es = 0 ↔ RightT es := by rw [← h.tree, rightT_P]
theorem goodH_snoc {es : List En} {e : En} (hr : Rise es) (hh : ∀ x ∈ es, homeP es x.path = true) : GoodH (es ++ [e]) := by
  refine layFromH_congr (fun x hx hxe => ?_)
  rcases List.mem_append.1 hx with hx | hx
  · have h1 := hh x hx
    have h2 : homeP (es ++ [e]) x.path = true := by
      rw [homeP_iff] at h1 ⊢
      rcases h1 with h1 | ⟨d, hd, h1⟩
      · exact .inl h1
      · exact .inr ⟨d, List.mem_append_left _ hd, h1⟩
    rw [h2]
    symm
    rw [homeP_eq hr] at h1
    unfold homeE at h1 ⊢
    by_cases h0 : parentP x.path = []
    · simp [h0]
    · rw [if_neg h0] at h1 ⊢
      cases hf : findE es (parentP x.path) with
      | none => rw [hf] at h1; simp at h1
      | some d =>
        rw [hf] at h1
        have : findE (es ++ [e]) (parentP x.path) = some d := by
          rw [findE, List.find?_append]
          have hf' : List.find? (fun y : En => decide (y.path = parentP x.path)) es = some d := hf
          rw [hf']
          rfl
        rw [this]
        exact h1
  · simp only [List.mem_singleton] at hx
    subst hx
    by_cases h0 : parentP x.path = []
    · simp [homeP, homeE, h0]
    · have hne := parent_ne (entFault_zero hxe) h0
      have e1 : homeP (es ++ [x]) x.path = homeP es x.path := by
        simp [homeP, h0, hasDir, hne.symm]
      have e2 : homeE (es ++ [x]) x.path = homeE es x.path := by
        have : findE (es ++ [x]) (parentP x.path) = findE es (parentP x.path) := by
          simp [findE, List.find?_append, hne.symm]
        simp only [homeE, this]
      rw [e1, e2, homeP_eq hr]
theorem goodH_set {r0 e : En} {tl : List En} (h : Right (r0 :: tl)) : GoodH (e :: tl) := by
  have hrt : Rise tl := (List.pairwise_cons.1 h.rise).2
  by_cases hr : Rise (e :: tl)
  · exact goodH_rise hr
  · have hb : entBadH (homeP (e :: tl)) none e = entBadH (homeE (e :: tl)) none e := by
      unfold entBadH
      by_cases he : entFault e = 0
      · have : homeP (e :: tl) e.path = homeE (e :: tl) e.path := by
          by_cases h0 : parentP e.path = []
          · simp [homeP, homeE, h0]
          · have hne := parent_ne (entFault_zero he) h0
            have e1 : homeP (e :: tl) e.path = homeP tl e.path := by simp [homeP, h0, hasDir, hne.symm]
            have e2 : homeE (e :: tl) e.path = homeE tl e.path := by
              have : findE (e :: tl) (parentP e.path) = findE tl (parentP e.path) := by simp [findE, hne.symm]
              simp only [homeE, this]
            rw [e1, e2, homeP_eq hrt]
        rw [this]
      · simp [he]
    unfold GoodH
    simp only [layFromH]
    rw [hb]
    by_cases hz : entBadH (homeE (e :: tl)) none e = 0
    · rw [if_pos hz, if_pos hz]
      cases tl with
      | nil => rfl
      | cons t1 r =>
        have ht : entFault t1 = 0 := h.ent t1 (by simp)
        have hlow : lowE (some e) t1 = true := by
          cases hlo : lowE (some e) t1
          · exfalso
            refine hr (List.pairwise_cons.2 ⟨fun y hy => ?_, hrt⟩)
            have h1 := lowE_some hlo
            rcases List.mem_cons.1 hy with rfl | hy
            · exact h1
            · exact bl_trans _ _ _ h1 ((List.pairwise_cons.1 hrt).1 y hy)
          · rfl
        simp only [layFromH]
        have b1 : ∀ H : Bs → Bool, entBadH H (some e) t1 = 1 := fun H => by simp [entBadH, ht, hlow]
        rw [b1, b1]
        rfl
    · rw [if_neg hz, if_neg hz]
/-- Where the first entry has a fault of its own. -/
theorem goodH_first {e : En} {tl : List En} (h : entFault e ≠ 0) : GoodH (e :: tl) := by
  have b1 : ∀ H : Bs → Bool, entBadH H none e = entFault e := fun H => by simp [entBadH, h]
  unfold GoodH
  simp only [layFromH, b1, if_neg h]

/-- The path above, of the names. -/
theorem parent_take {ns : List Bs} (h : 1 < ns.length) : (aboveN ns).getLastD [] = joinB (ns.take (ns.length - 1)) := by
  obtain ⟨m, hm⟩ : ∃ m, ns.length - 1 = m + 1 := ⟨ns.length - 2, by omega⟩
  unfold aboveN
  rw [hm, List.range_succ, List.map_append, List.getLastD_eq_getLast?]
  simp
/-- What is below a path has it as parent, or its parent is below it. -/
theorem below_step {x p : Bs} (hx : faultP x = 0) (hp : faultP p = 0) (h : belowB x p = true) : parentP x ≠ [] ∧ (parentP x = p ∨ belowB (parentP x) p = true) := by
  have hm := (above_iff hx).2 ⟨hp, h⟩
  have hne : aboveN (cutB x.tail) ≠ [] := fun e => by rw [e] at hm; simp at hm
  have h0 : parentP x ≠ [] := fun e => hne (parentP_nil.1 e)
  refine ⟨h0, ?_⟩
  obtain ⟨ns, hN, hxe, hc, -⟩ := faultP_zero hx
  rw [hc] at hm hne
  obtain ⟨k, hk0, hk1, hpk⟩ := mem_aboveN.1 hm
  have hpar : parentP x = joinB (ns.take (ns.length - 1)) := by unfold parentP; rw [hc]; exact parent_take (by omega)
  by_cases hk : k = ns.length - 1
  · exact .inl (by rw [hpar, hpk, hk])
  · refine .inr ?_
    have hT : Names (ns.take (ns.length - 1)) := names_take hN (by omega)
    have hf := faultP_of hT
    rw [hpar]
    refine ((above_iff hf).1 ?_).2
    rw [cut_of hT, mem_aboveN]
    refine ⟨k, hk0, by rw [List.length_take]; omega, ?_⟩
    rw [hpk, List.take_take, Nat.min_eq_left (by omega)]
theorem RightT.path {es : List En} (h : RightT es) {e : En} (he : e ∈ es) : faultP e.path = 0 := entFault_zero (h.ent e he)
theorem RightT.only {es : List En} (h : RightT es) {d e : En} (hd : d ∈ es) (he : e ∈ es) (hp : d.path = e.path) : d = e := by
  have h1 := rise_find h.rise hd
  have h2 := rise_find h.rise he
  rw [hp, h2] at h1
  exact (Option.some.inj h1).symm
theorem RightT.dir {es : List En} (h : RightT es) {e : En} (he : e ∈ es) : dirK e.kind = decide (e.kind = 2) := by
  have := h.kind e he
  simp only [treeK, decide_eq_true_eq] at this
  unfold dirK
  rcases this with hk | hk <;> rw [hk] <;> decide
theorem RightT.kinds {es : List En} (h : RightT es) {e : En} (he : e ∈ es) : e.kind = 1 ∨ e.kind = 2 := by
  have := h.kind e he
  simpa [treeK] using this
/-- A path that is no directory has nothing in it. -/
theorem RightT.file_bare {es : List En} (h : RightT es) {p : Bs} (hp : p ≠ []) (hf : ∀ d ∈ es, d.path = p → dirK d.kind = false) : ∀ x ∈ es, parentP x.path ≠ p := by
  intro x hx e
  rcases homeP_iff.1 (h.home x hx) with h0 | ⟨d, hd, hdp, hdk⟩
  · rw [e] at h0; exact hp h0
  · rw [hf d hd (hdp.trans e)] at hdk; cases hdk
/-- Where nothing has a path as its parent nothing is below it. -/
theorem RightT.none_below {es : List En} (h : RightT es) {p : Bs} (hp : faultP p = 0) (hk : ∀ x ∈ es, parentP x.path ≠ p) : ∀ x ∈ es, belowB x.path p = false := by
  have : ∀ n, ∀ x ∈ es, x.path.length ≤ n → belowB x.path p = false := by
    intro n
    induction n with
    | zero =>
      intro x hx hl
      cases hb : belowB x.path p
      · rfl
      · have := below_len hb; omega
    | succ n ih =>
      intro x hx hl
      cases hb : belowB x.path p
      · rfl
      · exfalso
        obtain ⟨h0, h1⟩ := below_step (h.path hx) hp hb
        rcases h1 with h1 | h1
        · exact hk x hx h1
        · rcases homeP_iff.1 (h.home x hx) with h2 | ⟨d, hd, hdp, -⟩
          · exact h0 h2
          · have h3 := below_len (parent_above (h.path hx) h0).2
            have := ih d hd (by rw [hdp]; omega)
            rw [hdp, h1] at this; cases this
  exact fun x hx => this _ x hx (Nat.le_refl _)
/-- A right entry is put into a right tree. -/
theorem rightT_put {es : List En} {e : En} (h : RightT es) (he : entFault e = 0) (hek : treeK e.kind = true) (hh : homeP es e.path = true) (hl : (putE es e).length ≤ 40) : RightT (putE es e) := by
  have hpe := entFault_zero he
  refine ⟨hl, fun x hx => ?_, fun x hx => ?_, rise_putE h.rise, fun x hx => ?_⟩
  · rcases mem_putE.1 hx with rfl | ⟨hx, _⟩
    · exact hek
    · exact h.kind x hx
  · rcases mem_putE.1 hx with rfl | ⟨hx, _⟩
    · exact he
    · exact h.ent x hx
  · rw [homeP_iff]
    rcases mem_putE.1 hx with rfl | ⟨hx, hk⟩
    · rcases homeP_iff.1 hh with h0 | ⟨d, hd, hdp, hdk⟩
      · exact .inl h0
      · by_cases h0 : parentP x.path = []
        · exact .inl h0
        · have hb := (parent_above hpe h0).2
          have hlen := below_len hb
          refine .inr ⟨d, mem_putE.2 (.inr ⟨hd, ?_⟩), hdp, hdk⟩
          have h1 : d.path ≠ x.path := fun e => by rw [hdp] at e; rw [e] at hlen; omega
          have h2 : belowB d.path x.path = false := by
            cases h3 : belowB d.path x.path
            · rfl
            · have := below_len h3; rw [hdp] at this; omega
          simp [keepE, h1, h2]
    · have hpx := h.path hx
      rcases homeP_iff.1 (h.home x hx) with h0 | ⟨d, hd, hdp, hdk⟩
      · exact .inl h0
      · by_cases h0 : parentP x.path = []
        · exact .inl h0
        · have hb := (parent_above hpx h0).2
          rw [← hdp] at hb
          simp only [keepE, Bool.and_eq_true, Bool.not_eq_true', decide_eq_false_iff_not, Bool.or_eq_true] at hk
          by_cases hde : d.path = e.path
          · rcases hk.2 with hk2 | hk2
            · exact .inr ⟨e, mem_putE.2 (.inl rfl), by rw [← hde]; exact hdp, hk2⟩
            · rw [hde] at hb; rw [hb] at hk2; cases hk2
          · refine .inr ⟨d, mem_putE.2 (.inr ⟨hd, ?_⟩), hdp, hdk⟩
            simp only [keepE, Bool.and_eq_true, Bool.not_eq_true', decide_eq_false_iff_not, Bool.or_eq_true]
            refine ⟨hde, hk.2.elim .inl (fun hk2 => .inr ?_)⟩
            cases h3 : belowB d.path e.path
            · rfl
            · rw [below_trans hb h3] at hk2; cases hk2
/-- All but what is of a path. -/
def offE (es : List En) (p : Bs) : List En := es.filter fun x => !decide (x.path = p)
theorem mem_offE {es : List En} {p : Bs} {x : En} : x ∈ offE es p ↔ x ∈ es ∧ x.path ≠ p := by simp [offE]
theorem offE_len (es : List En) (p : Bs) : (offE es p).length ≤ es.length := List.length_filter_le _ _
theorem offE_lt {es : List En} {p : Bs} {x : En} (hx : x ∈ es) (hp : x.path = p) : (offE es p).length < es.length := by
  unfold offE
  rw [List.length_filter_lt_length_iff_exists]
  exact ⟨x, hx, by simp [hp]⟩
theorem offE_same {es : List En} {p : Bs} (h : ∀ x ∈ es, x.path ≠ p) : offE es p = es := by
  unfold offE
  rw [List.filter_eq_self]
  intro x hx
  simp [h x hx]
theorem rightT_off {es : List En} {p : Bs} (h : RightT es) (hk : ∀ x ∈ es, parentP x.path ≠ p) : RightT (offE es p) := by
  refine ⟨Nat.le_trans (offE_len es p) h.len, fun x hx => h.kind x (mem_offE.1 hx).1, fun x hx => h.ent x (mem_offE.1 hx).1, h.rise.sublist List.filter_sublist, fun x hx => ?_⟩
  obtain ⟨hx, hn⟩ := mem_offE.1 hx
  rw [homeP_iff]
  rcases homeP_iff.1 (h.home x hx) with h0 | ⟨d, hd, hdp, hdk⟩
  · exact .inl h0
  · exact .inr ⟨d, mem_offE.2 ⟨hd, fun e => hk x hx (hdp ▸ e)⟩, hdp, hdk⟩
theorem rest_off {es : List En} {p : Bs} (h : ∀ x ∈ es, belowB x.path p = false) : restE es p true = offE es p := by
  unfold restE offE
  apply List.filter_congr
  intro x hx
  simp [goesE, h x hx]
theorem base_off {es : List En} {e : En} (h : dirK e.kind = true ∨ ∀ x ∈ es, belowB x.path e.path = false) : baseE es e = offE es e.path := by
  unfold baseE offE
  apply List.filter_congr
  intro x hx
  unfold keepE
  rcases h with h | h
  · simp [h]
  · simp [h x hx]
theorem findE_off {es : List En} {p q : Bs} (h : q ≠ p) : findE (offE es p) q = findE es q := by
  unfold findE offE
  rw [List.find?_filter]
  congr 1
  funext x
  by_cases e : x.path = q
  · simp [e, h]
  · simp [e]
theorem findE_gone (es : List En) (p : Bs) : findE (offE es p) p = none := find_none (fun e he => (mem_offE.1 he).2)

/-- The home. -/
def homeC (es : List En) (p : Bs) : Int :=
  if parentP p = [] then 0 else
    match findE es (parentP p) with
    | none => 4
    | some e => if e.kind = 1 then 9 else 0
theorem homeC_top {es : List En} {p : Bs} (h : parentP p = []) : homeC es p = 0 := by simp [homeC, h]
theorem homeC_none {es : List En} {p : Bs} (h : parentP p ≠ []) (hf : findE es (parentP p) = none) : homeC es p = 4 := by simp [homeC, h, hf]
theorem homeC_file {es : List En} {p : Bs} {e : En} (h : parentP p ≠ []) (hf : findE es (parentP p) = some e) (hk : e.kind = 1) : homeC es p = 9 := by simp [homeC, h, hf, hk]
theorem homeC_dir {es : List En} {p : Bs} {e : En} (h : parentP p ≠ []) (hf : findE es (parentP p) = some e) (hk : e.kind ≠ 1) : homeC es p = 0 := by simp [homeC, h, hf, hk]
theorem homeC_home {es : List En} {p : Bs} (h : RightT es) : homeC es p = 0 ↔ homeP es p = true := by
  rw [homeP_eq h.rise]
  unfold homeC homeE
  by_cases h0 : parentP p = []
  · simp [h0]
  · rw [if_neg h0, if_neg h0]
    cases hf : findE es (parentP p) with
    | none => simp
    | some e =>
      rcases h.kinds (find_mem hf).1 with hk | hk
      · simp [hk, dirK]
      · simp [hk, dirK]
/-- What WriteTree replies. -/
def writeC (es : List En) (p : Bs) : Int :=
  if homeC es p = 0 then
    (match findE es p with
    | some e => if e.kind = 2 then 9 else 0
    | none => if 40 ≤ es.length then 2 else 0)
  else homeC es p
def writeL (es : List En) (p : Bs) (ds : List Int) : List En := if writeC es p = 0 then putE es (fileE p ds) else es
/-- What MakeDir replies. -/
def makeC (es : List En) (p : Bs) : Int :=
  if homeC es p = 0 then
    (match findE es p with
    | some _ => 7
    | none => if 40 ≤ es.length then 2 else 0)
  else homeC es p
def dirE (p : Bs) : En := ⟨p, 2, 0, []⟩
def makeL (es : List En) (p : Bs) : List En := if makeC es p = 0 then putE es (dirE p) else es
/-- What has a path as its parent. -/
def kidsE (es : List En) (p : Bs) : List En := es.filter fun x => decide (parentP x.path = p)
theorem kids_none {es : List En} {p : Bs} : kidsE es p = [] ↔ ∀ x ∈ es, parentP x.path ≠ p := by
  unfold kidsE
  rw [List.filter_eq_nil_iff]
  simp
/-- What RemoveTree replies. -/
def removeC (es : List En) (p : Bs) : Int :=
  match findE es p with
  | none => 4
  | some _ => if kidsE es p = [] then 0 else 1
def removeL (es : List En) (p : Bs) : List En := if removeC es p = 0 then offE es p else es
theorem dirE_right {p : Bs} (hp : faultP p = 0) : entFault (dirE p) = 0 := by
  rw [entFault_digs (e := dirE p) hp (by simp [formE, dirE]) (by simp [sizeE, dirE]) (by simp [manyE, dirE])]
  rfl
theorem putE_len2 {es : List En} {e : En} : (putE es e).length = (baseE es e).length + 1 := by
  unfold putE putAt
  simp only [List.length_append, List.length_cons, List.length_take, List.length_drop]
  omega
theorem put_len_in {es : List En} {e x : En} (hx : x ∈ es) (hp : x.path = e.path) : (putE es e).length ≤ es.length := by
  rw [putE_len2]
  have : (baseE es e).length < es.length := by
    unfold baseE
    rw [List.length_filter_lt_length_iff_exists]
    exact ⟨x, hx, by simp [keepE, hp]⟩
  omega
theorem put_len_le (es : List En) (e : En) : (putE es e).length ≤ es.length + 1 := by
  rw [putE_len2]
  have := baseE_len es e
  omega
theorem write_ok {es : List En} {p : Bs} (h : writeC es p = 0) : homeC es p = 0 ∧ (∀ e, findE es p = some e → e.kind ≠ 2) ∧ (findE es p = none → es.length < 40) := by
  unfold writeC at h
  by_cases h0 : homeC es p = 0
  · rw [if_pos h0] at h
    refine ⟨h0, fun e he => ?_, fun he => ?_⟩
    · rw [he] at h
      intro hk
      simp [hk] at h
    · rw [he] at h
      by_cases hl : 40 ≤ es.length
      · simp [hl] at h
      · omega
  · rw [if_neg h0] at h; exact absurd h h0
theorem make_ok {es : List En} {p : Bs} (h : makeC es p = 0) : homeC es p = 0 ∧ findE es p = none ∧ es.length < 40 := by
  unfold makeC at h
  by_cases h0 : homeC es p = 0
  · rw [if_pos h0] at h
    cases hf : findE es p with
    | some e => rw [hf] at h; simp at h
    | none =>
      rw [hf] at h
      by_cases hl : 40 ≤ es.length
      · simp [hl] at h
      · exact ⟨h0, rfl, by omega⟩
  · rw [if_neg h0] at h; exact absurd h h0
theorem remove_ok {es : List En} {p : Bs} (h : removeC es p = 0) : (∃ e, findE es p = some e) ∧ kidsE es p = [] := by
  unfold removeC at h
  cases hf : findE es p with
  | none => rw [hf] at h; simp at h
  | some e =>
    rw [hf] at h
    by_cases hk : kidsE es p = []
    · exact ⟨⟨e, rfl⟩, hk⟩
    · simp [hk] at h
theorem write_bare {es : List En} {p : Bs} (hR : RightT es) (hp : faultP p = 0) (h : writeC es p = 0) : ∀ x ∈ es, belowB x.path p = false := by
  have h0 : p ≠ [] := fun e => by rw [e] at hp; exact faultP_nil hp
  refine hR.none_below hp (hR.file_bare h0 (fun d hd hdp => ?_))
  have hf := rise_find hR.rise hd
  rw [hdp] at hf
  have := (write_ok h).2.1 d hf
  rw [hR.dir hd]
  simpa using this
theorem right_write {es : List En} {p : Bs} {ds : List Int} (hR : RightT es) (hp : faultP p = 0) (hd : entFault (fileE p ds) = 0) (h : writeC es p = 0) : RightT (putE es (fileE p ds)) := by
  obtain ⟨h1, h2, h3⟩ := write_ok h
  refine rightT_put hR hd rfl ((homeC_home hR).1 h1) ?_
  cases hf : findE es p with
  | none => have := h3 hf; have := put_len_le es (fileE p ds); omega
  | some e => have := put_len_in (e := fileE p ds) (find_mem hf).1 (find_mem hf).2; have := hR.len; omega
theorem right_make {es : List En} {p : Bs} (hR : RightT es) (hp : faultP p = 0) (h : makeC es p = 0) : RightT (putE es (dirE p)) := by
  obtain ⟨h1, h2, h3⟩ := make_ok h
  refine rightT_put hR (dirE_right hp) rfl ((homeC_home hR).1 h1) ?_
  have := put_len_le es (dirE p)
  omega
theorem right_remove {es : List En} {p : Bs} (hR : RightT es) (h : removeC es p = 0) : RightT (offE es p) := rightT_off hR (kids_none.1 (remove_ok h).2)
theorem rightT_writeL {es : List En} {p : Bs} {ds : List Int} (hR : RightT es) (hp : faultP p = 0) (hd : entFault (fileE p ds) = 0) : RightT (writeL es p ds) := by
  unfold writeL
  by_cases h : writeC es p = 0
  · rw [if_pos h]; exact right_write hR hp hd h
  · rw [if_neg h]; exact hR
theorem rightT_makeL {es : List En} {p : Bs} (hR : RightT es) (hp : faultP p = 0) : RightT (makeL es p) := by
  unfold makeL
  by_cases h : makeC es p = 0
  · rw [if_pos h]; exact right_make hR hp h
  · rw [if_neg h]; exact hR
theorem rightT_removeL {es : List En} {p : Bs} (hR : RightT es) : RightT (removeL es p) := by
  unfold removeL
  by_cases h : removeC es p = 0
  · rw [if_pos h]; exact right_remove hR h
  · rw [if_neg h]; exact hR
end Go.Proofs.YtjkmbicedbdifaaGreat
