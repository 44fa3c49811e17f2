/-
  The model's ParseManifest.
-/
import Derived.Test.YtlbccbikepkfiaaGreatDoorRdQ
import Derived.Test.YtlbccbikepkfiaaGreatDoorManM
namespace Go.Proofs.YtlbccbikepkfiaaGreatDoor
open Go.RowKit
set_option linter.unusedVariables false
set_option maxRecDepth 100000

theorem Three.kept {S : Nat → Prop} {w w' : World} {b : Nat} {u0 u1 u2 : Value} (h : Three w b u0 u1 u2) (hk : Kept S w w') (hn : ¬ S b) : Three w' b u0 u1 u2 := by
  have hlt : b < w.heap.size := World.block_lt_of_cell? w ⟨b, 0, none⟩ h.1.1
  exact ⟨⟨(hk.cell (p := ⟨b, 0, none⟩) hlt hn).trans h.1.1, (hk.cell (p := ⟨b, 1, none⟩) hlt hn).trans h.1.2.1, (hk.cell (p := ⟨b, 2, none⟩) hlt hn).trans h.1.2.2⟩, (hk.frozen (p := ⟨b, 0, none⟩) hlt hn).trans h.2.1, (hk.frozen (p := ⟨b, 1, none⟩) hlt hn).trans h.2.2.1, (hk.frozen (p := ⟨b, 2, none⟩) hlt hn).trans h.2.2.2⟩
theorem parseM_nil : parseM [] = none := rfl
theorem parseM_last {ys : Bs} {c : UInt8} (h : c ≠ 10) : parseM (ys ++ [c]) = none := by
  unfold parseM
  rw [if_neg]
  simp [h]
theorem parseM_cut (ys : Bs) : parseM (ys ++ [10]) = readM ys := by
  unfold parseM
  rw [if_pos (by simp)]
  simp
theorem mapM_len {ws : List Bs} {ds : List Int} (h : ws.mapM hexW = some ds) : ds.length = ws.length := by
  have := congrArg List.length (hexW_back h).1
  simpa using this
theorem readM_few {ys : Bs} {ws : List Bs} (hc : cutC 32 ys = ws) (h : ws.length < 3 ∨ 5 < ws.length) : readM ys = none := by
  unfold readM
  rw [hc]
  match ws, h with
  | [], _ => rfl
  | [_], _ => rfl
  | a :: n :: r, h =>
    simp only [List.length_cons] at h
    simp only
    split
    · cases hm : r.mapM hexW with
      | none => rfl
      | some ds =>
        have := mapM_len hm
        simp only
        rw [if_neg]
        intro hf
        have hF := manFault_fit.1 hf
        have h1 := hF.many
        have h2 : ds.length ≠ 0 := fun e => hF.some (List.length_eq_zero_iff.1 e)
        omega
    · rfl
theorem readM_word {ys a n : Bs} {r : List Bs} (hc : cutC 32 ys = a :: n :: r) (h : a ≠ imageW) : readM ys = none := by
  unfold readM; rw [hc]; simp only [if_neg h]
theorem readM_hex {ys n : Bs} {r : List Bs} (hc : cutC 32 ys = imageW :: n :: r) (h : r.mapM hexW = none) : readM ys = none := by
  unfold readM; rw [hc]; simp only [if_true, h]
theorem readM_all {ys n : Bs} {r : List Bs} {ds : List Int} (hc : cutC 32 ys = imageW :: n :: r) (h : r.mapM hexW = some ds) : readM ys = if manFault n ds = 0 then some (n, ds) else none := by
  unfold readM; rw [hc]; simp only [if_true, h]
theorem mapM_none : ∀ {r : List Bs} {x : Bs}, x ∈ r → hexW x = none → r.mapM hexW = none
  | [], _, h, _ => by simp at h
  | y :: r, x, h, hx => by
    rw [List.mapM_cons]
    rcases List.mem_cons.1 h with rfl | h
    · rw [hx]; rfl
    · rw [mapM_none h hx]
      cases hexW y <;> rfl
theorem mapM_snoc {r : List Bs} {j : Nat} {x : Bs} {done : List Int} {d : Int} (h : (r.take j).mapM hexW = some done) (hx : r[j]? = some x) (hd : hexW x = some d) : (r.take (j + 1)).mapM hexW = some (done ++ [d]) := by
  rw [take_snoc_at hx, List.mapM_append, h]
  simp [hd]
theorem l1ParseW (l : Bs) (w : World) : Calls Tryz.prog 79 #[.string (str l)] w fun e w' => e = .returned (.tuple #[.int .i64 ((hexW l).getD 0), .bool (hexW l).isSome]) ∧ w' = w := by
  by_cases h : l.length = 8
  · have := l1Parse_any (str l) w (by rw [str_size]; exact h)
    rw [str_data] at this
    unfold hexW
    rw [if_pos h]
    exact this
  · have := l1Parse_len (str l) w (by rw [str_size]; exact h)
    unfold hexW
    rw [if_neg h]
    exact this

theorem str_last (ys : Bs) (c : UInt8) (h : (str (ys ++ [c])).size - 1 < (str (ys ++ [c])).size) : (str (ys ++ [c]))[(str (ys ++ [c])).size - 1]'h = c := by
  have e : (str (ys ++ [c])).size - 1 = ys.length := by rw [str_size]; simp
  have : ∀ i (hi : i < (str (ys ++ [c])).size), i = ys.length → (str (ys ++ [c]))[i]'hi = c := by
    intro i hi hie
    subst hie
    have e2 : (str (ys ++ [c]))[ys.length]'hi = (ys ++ [c])[ys.length]'(by simp) := rfl
    rw [e2]
    simp
  exact this _ h e
end Go.Proofs.YtlbccbikepkfiaaGreatDoor
