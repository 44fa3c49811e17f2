/-
  The program's PathFault and LastOf.
-/
import Derived.Test.YtcnoabkpilmanaaPieces
import Derived.Test.YtcnoabkpilmanaaPathA
import Derived.Scope
namespace Go.Proofs.Ytcnoabkpilmanaa
open Go.RowKit Go.Shelf
set_option linter.unusedVariables false
attribute [local go_sem] Oper.semAt_some

theorem wpIn_scope_wide {n : Nat} {P : Program} {c : Code} {Q : Exit → Act → World → Prop} {a : Act} {w : World} (h : c.wpIn Fence.wide n P (Exit.noGoto Q) a w) : (Code.scope c).wpIn Fence.wide n P Q a w :=
  wpIn_wide.2 (wp_scope_straight (wpIn_wide.1 h))

theorem faultP_not {l : Bs} (h : ∀ r, l ≠ 47 :: r) : faultP l = 5 := by
  cases l with
  | nil => rfl
  | cons c r =>
    have hc : c ≠ 47 := fun e => h r (by rw [e])
    simp [faultP, hc]
theorem stroke_cases (l : Bs) : (∃ r, l = 47 :: r) ∨ ∀ r, l ≠ 47 :: r := by
  by_cases h : ∃ r, l = 47 :: r
  · exact .inl h
  · exact .inr fun r e => h ⟨r, e⟩

/-- The code of plain pieces so far. -/
def cd (ps : List Bs) : Int := if ps.all (fun n => decide (n.length ≤ 4)) && decide (ps.length ≤ 3) then 0 else 2
theorem cd_nil : cd [] = 0 := rfl
theorem cd_bad (ps : List Bs) (x : Bs) (h : 4 < x.length ∨ 3 < ps.length + 1) : cd (ps ++ [x]) = 2 := by
  have : ((ps ++ [x]).all (fun n => decide (n.length ≤ 4)) && decide ((ps ++ [x]).length ≤ 3)) = false := by
    rw [Bool.and_eq_false_iff]
    rcases h with h | h
    · left; simp; intro _; omega
    · right; simp; omega
  simp only [cd, this]; rfl
theorem cd_good (ps : List Bs) (x : Bs) (h : ¬ 4 < x.length) (h2 : ¬ 3 < ps.length + 1) : cd (ps ++ [x]) = cd ps := by
  have e1 : decide (x.length ≤ 4) = true := by simp; omega
  have e2 : decide ((ps ++ [x]).length ≤ 3) = true := by simp; omega
  have e3 : decide (ps.length ≤ 3) = true := by simp; omega
  simp only [cd, List.all_append, List.all_cons, List.all_nil, e1, e2, e3, Bool.and_true]
theorem cd_fault {ns : List Bs} (h : ns.all plain = true) : faultN ns = cd ns := by simp only [faultN, h, if_true, cd]
theorem fault_of_prefix {ns ps : List Bs} (h : ps <+: ns) (hp : ps.all plain = false) : faultN ns = 5 := by
  obtain ⟨q, rfl⟩ := h
  simp [faultN, hp]

set_option maxRecDepth 100000 in
set_option maxHeartbeats 2000000 in
theorem implPathFault_no (s : ByteArray) (w : World) (h : ∀ r, s.data.toList ≠ 47 :: r) :
    Calls Try.prog 29 #[.string s] w fun e w' => e = .returned (.int .i64 5) ∧ Below w.heap.size w w' := by
  refine (callsIn_wide (n := 4)).1 ?_
  refine callsIn_of_wp_marks Try.func29 rfl trivial ?_ rfl
  simp only [Try.ntmps29, List.size_toArray, List.length_cons, List.length_nil, Nat.reduceAdd, Nat.reduceSub, Array.replicate_succ, Array.replicate_zero, List.push_toArray, List.append_toArray, List.nil_append, List.cons_append]
  gi_wp2_with fail
  refine wpIn_scope_wide ?_
  gi_wp2_with fail
  refine ⟨trivial, ?_⟩
  refine (callsIn_wide.2 (cutPrefix_no s _ h)).mono ?_
  rintro e w' ⟨⟨x, rfl⟩, rfl⟩
  gi_wp2_with fail
  exact ⟨_, results_tmp rfl _ _ _, rfl, Below.refl _ _⟩

set_option maxRecDepth 100000 in
set_option maxHeartbeats 2000000 in
theorem implPathFault_yes (s : ByteArray) (r : Bs) (w : World) (h : s.data.toList = 47 :: r) (hs : s.size ≤ 2097152) :
    Calls Try.prog 29 #[.string s] w fun e w' => e = .returned (.int .i64 (faultN (cutB r))) ∧ Below w.heap.size w w' := by
  refine (callsIn_wide (n := 4)).1 ?_
  refine callsIn_of_wp_marks Try.func29 rfl trivial ?_ rfl
  simp only [Try.ntmps29, List.size_toArray, List.length_cons, List.length_nil, Nat.reduceAdd, Nat.reduceSub, Array.replicate_succ, Array.replicate_zero, List.push_toArray, List.append_toArray, List.nil_append, List.cons_append]
  gi_wp2_with fail
  refine wpIn_scope_wide ?_
  gi_wp2_with fail
  refine ⟨trivial, ?_⟩
  refine (callsIn_wide.2 (cutPrefix_yes s r _ h)).mono ?_
  rintro e w' ⟨rfl, rfl⟩
  gi_wp2_with fail
  refine wpIn_label ?_
  gi_wp2_with fail
  refine ⟨trivial, ?_⟩
  refine (callsIn_wide.2 (piecesOf_in _ _)).mono ?_
  rintro e w1 ⟨rfl, rfl⟩
  gi_wp2_with fail
  have hrl : r.length ≤ 2097152 := by have := congrArg List.length h; rw [← Lib.size_eq] at this; simp at this; omega
  have hcl := cutB_length r
  have bC := Boxed.new w' 2 (.int .i64 0)
  have bN := Boxed.new (w'.alloc (.cells #[.int .i64 0] 2)) 3 (.int .i64 0)
  have bT := Boxed.new ((w'.alloc (.cells #[.int .i64 0] 2)).alloc (.cells #[.int .i64 0] 3)) 9 (.string (str r))
  simp only [World.size_alloc] at bN bT
  have hB0 : Below w'.heap.size w' (((w'.alloc (.cells #[.int .i64 0] 2)).alloc (.cells #[.int .i64 0] 3)).alloc (.cells #[.string (str r)] 9)) := (((Below.refl _ w').alloc (Nat.le_refl _) _).alloc (by simp) _).alloc (by simp; omega) _
  refine wpIn_rangeFunc_ownF rfl (by decide) (gf := 49) (lb := #[.pointer (some ⟨w'.heap.size + 1 + 1, 0, none⟩)]) rfl trivial (enters_of Try.func49 (by kernel_rfl) rfl)
    (pieces_stops _ (w'.heap.size + 1 + 1) w'.heap.size r hrl _ (by simp) bT.cell) belowK_t (belowK_b (by simp; omega)) (Below.refl _ _) (fun _ => rfl)
    (fun (pre : List Pc) W => (Boxed W w'.heap.size 2 (.int .i64 (cd (pcs pre))) ∧ Boxed W (w'.heap.size + 1) 3 (.int .i64 pre.length) ∧ (pcs pre).all plain = true) ∧ Below w'.heap.size w' W)
    (fun c (pre : List Pc) W => (c = .exit 0 ∧ (pcs pre).all plain = false ∧ Boxed W w'.heap.size 2 (.int .i64 5)) ∧ Below w'.heap.size w' W)
    (OwnFrom.and (OwnFrom.and (Own.from (boxed_own _ _ (fun pre => .int .i64 (cd (pcs pre)))) _) (OwnFrom.and (Own.from (boxed_own _ _ (fun (pre : List Pc) => .int .i64 pre.length)) _) (ownFrom_pure _ _))) (ownFrom_below (Nat.le_refl _) (by simp; omega)))
    (fun c => OwnFrom.and (OwnFrom.and (ownFrom_pure _ _) (OwnFrom.and (ownFrom_pure _ _) (Own.from (boxed_own _ _ (fun _ => .int .i64 5)) _))) (ownFrom_below (Nat.le_refl _) (by simp; omega)))
    ⟨⟨(bC.alloc _).alloc _, bN.alloc _, rfl⟩, hB0⟩
    (fun x => { tmps := #[.string s, undef, .int .i64 0, .string (str r), .bool true, .pointer (some ⟨w'.heap.size, 0, none⟩), .pointer (some ⟨w'.heap.size + 1, 0, none⟩), .string (str x.1), .tuple #[.string (str r), .bool true], .string s, .tuple #[.string (str r), .bool true], .string (str r), .bool true, .bool true, .bool false, .string (str r), .func (.func 49) #[] #[.pointer (some ⟨w'.heap.size + 1 + 1, 0, none⟩)], .string (str x.1), undef, undef, undef, undef, undef, undef, undef, undef, undef, undef, undef, undef, undef, undef, undef], defers := [] }) ?assign ?body ?done ?stop
  case assign =>
    intro l x W K hK
    gi_wp2_with fail
    exact hK
  case body =>
    rintro l pre ⟨x, hx⟩ W ⟨⟨hc, hn, hp⟩, hB⟩ hlt
    have hc0 := hc.cell
    have hf0 := hc.frozen
    have hn0 := hn.cell
    have hnf := hn.frozen
    have hpl : (pre.length : Int) ≤ 4194304 := by omega
    have HP := hide hp
    have HB := hide hB
    have HC := hide (hc.other (B' := w'.heap.size + 1) (by omega) (.int .i64 (pre.length + 1)))
    have HN := hide (hn.set (.int .i64 (pre.length + 1)))
    clear hp hB hc hn
    have hn1 := HN.out.cell
    have hc1 := HC.out.cell
    have hf1 := HC.out.frozen
    gi_wp2_with fail
    refine ⟨trivial, ?_⟩
    refine (CallsIn.inRound l (callsIn_wide.2 (isLetters_any _ _ (by rw [str_size]; omega)))).mono ?_
    rintro e w2 ⟨rfl, rfl⟩
    rw [str_data]
    cases hpx : plain x
    · have HX := hide hpx
      clear hpx
      gi_wp2_with fail
      exact ⟨(KeepsOthers.setCell _ _ _).trans (KeepsOthers.setCell _ _ _), ⟨rfl, by rw [pcs_snoc]; simp [HX.out], HC.out.set _⟩, (HB.out.setCell (p := ⟨w'.heap.size + 1, 0, none⟩) (by simp) _).setCell (p := ⟨w'.heap.size, 0, none⟩) (Nat.le_refl _) _⟩
    · have HX := hide hpx
      clear hpx
      have HPn := hide (show (pcs (pre ++ [⟨x, hx⟩])).all plain = true by rw [pcs_snoc]; simp [HP.out, HX.out])
      by_cases h4 : 4 < x.length
      · have h4' : (4 : Int) < ((str x).size : Int) := by rw [str_size]; omega
        have HE := hide (cd_bad (pcs pre) x (.inl h4))
        gi_wp2_with fail
        exact ⟨(KeepsOthers.setCell _ _ _).trans (KeepsOthers.setCell _ _ _), ((Below.refl w'.heap.size W).setCell (p := ⟨w'.heap.size + 1, 0, none⟩) (by simp) _).setCell (p := ⟨w'.heap.size, 0, none⟩) (Nat.le_refl _) _, ⟨by rw [pcs_snoc, HE.out]; exact HC.out.set _, by simpa using HN.out.other (by omega) _, HPn.out⟩, (HB.out.setCell (p := ⟨w'.heap.size + 1, 0, none⟩) (by simp) _).setCell (p := ⟨w'.heap.size, 0, none⟩) (Nat.le_refl _) _⟩
      · have h4' : ¬ (4 : Int) < ((str x).size : Int) := by rw [str_size]; omega
        by_cases h3 : 3 < pre.length + 1
        · have h3' : (3 : Int) < (pre.length : Int) + 1 := by omega
          have HE := hide (cd_bad (pcs pre) x (.inr (by rw [pcs_length]; exact h3)))
          gi_wp2_with fail
          exact ⟨(KeepsOthers.setCell _ _ _).trans (KeepsOthers.setCell _ _ _), ((Below.refl w'.heap.size W).setCell (p := ⟨w'.heap.size + 1, 0, none⟩) (by simp) _).setCell (p := ⟨w'.heap.size, 0, none⟩) (Nat.le_refl _) _, ⟨by rw [pcs_snoc, HE.out]; exact HC.out.set _, by simpa using HN.out.other (by omega) _, HPn.out⟩, (HB.out.setCell (p := ⟨w'.heap.size + 1, 0, none⟩) (by simp) _).setCell (p := ⟨w'.heap.size, 0, none⟩) (Nat.le_refl _) _⟩
        · have h3' : ¬ (3 : Int) < (pre.length : Int) + 1 := by omega
          have HE := hide (cd_good (pcs pre) x h4 (by rw [pcs_length]; exact h3))
          gi_wp2_with fail
          exact ⟨KeepsOthers.setCell _ _ _, (Below.refl w'.heap.size W).setCell (p := ⟨w'.heap.size + 1, 0, none⟩) (by simp) _, ⟨by rw [pcs_snoc, HE.out]; exact HC.out, by simpa using HN.out, HPn.out⟩, HB.out.setCell (p := ⟨w'.heap.size + 1, 0, none⟩) (by simp) _⟩
  case done =>
    rintro D ys W hD hys ⟨⟨hc, hn, hp⟩, hB⟩ hK
    have hc0 := hc.cell
    have HE := hide (show faultN (cutB r) = cd (pcs ys) by rw [← hys]; exact cd_fault hp)
    clear hp hys
    gi_wp2_with fail
    refine ⟨by simp, .inl ⟨_, _, rfl, run_takeDeferred hK, ?_⟩⟩
    exact ⟨_, results_tmp rfl _ _ _, by rw [HE.out]; rfl, hB.trans (belowK_b (w := w') (Nat.le_refl _) W D _ _ (by simp at hD; omega) hK rfl rfl)⟩
  case stop =>
    rintro D c pre W hD hpre ⟨⟨rfl, hp, hc⟩, hB⟩ hK
    have hc0 := hc.cell
    have HE := hide (fault_of_prefix hpre hp)
    clear hp hpre
    gi_wp2_with fail
    refine ⟨by simp, .inl ⟨_, _, rfl, run_takeDeferred hK, ?_⟩⟩
    exact ⟨_, results_tmp rfl _ _ _, by rw [HE.out]; rfl, hB.trans (belowK_b (w := w') (Nat.le_refl _) W D _ _ (by simp at hD; omega) hK rfl rfl)⟩

theorem implPathFault_any (s : ByteArray) (w : World) (hs : s.size ≤ 2097152) :
    Calls Try.prog 29 #[.string s] w fun e w' => e = .returned (.int .i64 (faultP s.data.toList)) ∧ Below w.heap.size w w' := by
  rcases stroke_cases s.data.toList with ⟨r, h⟩ | h
  · have e : faultP s.data.toList = faultN (cutB r) := by rw [h]; simp [faultP]
    rw [e]
    exact implPathFault_yes s r w h hs
  · rw [faultP_not h]
    exact implPathFault_no s w h

theorem box_own {β : Type} (b : Nat) (u v : Value) : Go.Own (fun (_ : β) W => Box W b u v) := fun s A B row hs hg hr =>
  ⟨⟨cell_kept hs.1.1 hg hr, cell_kept hs.1.2 hg hr⟩, (frozen_kept hs.1.1 hg hr).trans hs.2.1, (frozen_kept hs.1.2 hg hr).trans hs.2.2⟩
theorem Two.set {W : World} {b : Nat} {u v : Value} (h : Two W b u v) (u' v' : Value) : Two ((W.setCell ⟨b, 0, none⟩ u').setCell ⟨b, 1, none⟩ v') b u' v' := by
  have h1 : (W.setCell ⟨b, 0, none⟩ u').cell? ⟨b, 0, none⟩ = some u' := cell_set_same h.1
  have h2 : (W.setCell ⟨b, 0, none⟩ u').cell? ⟨b, 1, none⟩ = some v := (cell_set_other (by simp)).trans h.2
  exact ⟨(cell_set_other (by simp)).trans h1, cell_set_same h2⟩
/-- The end of a function whose result lies in a box of two cells and that held a loop over a function. -/
theorem end_box {W : World} {b D : Nat} {u v : Value} (h : Two W b u v) (hK : W.heap[D]? = some (.deferred (some []))) (u' v' : Value) :
    ((W.setCell ⟨b, 0, none⟩ u').setCell ⟨b, 1, none⟩ v').heap[D]? = some (.deferred (some [])) ∧
    (((W.setCell ⟨b, 0, none⟩ u').setCell ⟨b, 1, none⟩ v').putObj D (.deferred none)).cell? ⟨b, 0, none⟩ = some u' ∧
    (((W.setCell ⟨b, 0, none⟩ u').setCell ⟨b, 1, none⟩ v').putObj D (.deferred none)).cell? ⟨b, 1, none⟩ = some v' := by
  have hK2 := ((KeepsOthers.setCell W ⟨b, 0, none⟩ u').trans (KeepsOthers.setCell _ ⟨b, 1, none⟩ v')).same D _ hK rfl
  have h2 := h.set u' v'
  exact ⟨hK2, cell_kept h2.1 (grownBy_putObj' _ D (.deferred none)) (fun r e => by cases e; exact ⟨_, hK2, rfl⟩), cell_kept h2.2 (grownBy_putObj' _ D (.deferred none)) (fun r e => by cases e; exact ⟨_, hK2, rfl⟩)⟩

theorem lastN_snoc (ps : List Bs) (x : Bs) : lastN (ps ++ [x]) = x := by simp [lastN]


end Go.Proofs.Ytcnoabkpilmanaa
