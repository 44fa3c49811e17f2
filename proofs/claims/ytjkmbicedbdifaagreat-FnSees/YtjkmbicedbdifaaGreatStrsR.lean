/-
  The laws' helpers on lists of texts: compared, marked, held.
-/
import Derived.Test.YtjkmbicedbdifaaGreatJ1
namespace Go.Proofs.YtjkmbicedbdifaaGreat
open Go.RowKit
set_option linter.unusedVariables false




/-- A number's digits, as many as the first number allows. -/
def decF : Nat → Nat → Bs
  | 0, _ => []
  | f + 1, n => if n = 0 then [] else decF f (n / 10) ++ [(48 + n % 10).toUInt8]
/-- The text of a mark. -/
def markT (k : Nat) : Bs := 109 :: decF 20 k
theorem decF_zero (f : Nat) : decF f 0 = [] := by cases f <;> simp [decF]
theorem decF_len (f n : Nat) : (decF f n).length ≤ f := by
  induction f generalizing n with
  | zero => simp [decF]
  | succ f ih =>
    simp only [decF]
    split
    · simp
    · have := ih (n / 10); simp; omega
theorem decF_pos (f n : Nat) (h : 0 < n) : decF (f + 1) n = decF f (n / 10) ++ [(48 + n % 10).toUInt8] := by
  have : n ≠ 0 := by omega
  simp [decF, this]
theorem nums_one (d : Nat) (h : d < 256) : strOfNums [(d : Int)] = str [d.toUInt8] := by
  simp [strOfNums, str]


/-- n marks from k on. -/
def marksT (k n : Nat) : List Bs := (List.range n).map fun i => markT (k + i)
theorem marksT_length (k n : Nat) : (marksT k n).length = n := by simp [marksT]
theorem marksT_at {k n i : Nat} (h : i < n) : (marksT k n).getD i [] = markT (k + i) := by simp [marksT, List.getD_eq_getElem?_getD, h]

theorem OwnS.addr {B : Nat} {w : World} {a : Option Addr} {n c : Nat} {ps : List Bs} (h : OwnS B w (.slice a n c) ps) (hz : ps ≠ []) : ∃ g, a = some ⟨g, 0, none⟩ ∧ n = ps.length := by
  have h0 : 0 < ps.length := List.length_pos_iff.2 hz
  rcases h.2 with ⟨h', hh⟩ | ⟨g, cap, cur, h', hb, hh, hnc, hcm, hcs, htake⟩
  · omega
  · simp only [Value.slice.injEq] at h'
    exact ⟨g, h'.1, h'.2.1⟩
/-- One text of the list is written over. -/
theorem OwnS.set {B : Nat} {w : World} {g c : Nat} {ps : List Bs} {j : Nat} {p : Bs} (h : OwnS B w (.slice (some ⟨g, 0, none⟩) ps.length c) ps) (hj : j < ps.length) :
    OwnS B (w.setCell ⟨g, j, none⟩ (.string (str p))) (.slice (some ⟨g, 0, none⟩) ps.length c) (ps.set j p) := by
  have hr := h.reads (by intro e; simp [e] at hj)
  obtain ⟨b, off, e, hb, hc⟩ := hr
  simp only [Option.some.injEq, Addr.mk.injEq, and_true] at e
  obtain ⟨rfl, rfl⟩ := e
  have hl : (ps.set j p).length = ps.length := by simp
  have key := own_back (ys := (ps.set j p).map vS) h ((SameShape.refl w).setCell g j (.string (str p))) (by simp) (fun i hi => ?_)
  · unfold OwnS
    rw [hl]
    exact key
  · have hci := hc i hi
    rw [Nat.zero_add] at hci
    by_cases e : i = j
    · subst e
      rw [cell_set_same hci]
      simp [hi, vS]
    · rw [cell_set_other (by simp), hci]
      simp [Ne.symm e, hi, vS, List.getD_eq_getElem?_getD]
theorem mix_step (k j : Nat) (ps : List Bs) (h : j < ps.length) : (marksT k j ++ ps.drop j).set j (markT (k + j)) = marksT k (j + 1) ++ ps.drop (j + 1) := by
  have e : ps.drop j = ps[j] :: ps.drop (j + 1) := (List.getElem_cons_drop h).symm
  rw [List.set_append_right _ _ (by rw [marksT_length]; exact Nat.le_refl _), marksT_length, Nat.sub_self, e, List.set_cons_zero]
  simp [marksT, List.range_succ]





end Go.Proofs.YtjkmbicedbdifaaGreat
