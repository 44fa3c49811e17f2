/-
  The model's ChunksIn.
-/
import Derived.Test.YtjkmbicedbdifaaGreatJ2
namespace Go.Proofs.YtjkmbicedbdifaaGreat
open Go.RowKit Go.Maps
set_option linter.unusedVariables false

theorem has_upto {ms : List Int} {z : Int} (h : ∀ j, j < ms.length → ms.getD j 0 ≠ z) : ms.contains z = false := by
  simp only [List.contains_eq_mem, decide_eq_false_iff_not]
  intro hm
  obtain ⟨j, hj, e⟩ := List.mem_iff_getElem.1 hm
  exact h j hj (by simp [List.getD_eq_getElem?_getD, hj, e])
theorem has_hit {ms : List Int} {z : Int} {j : Nat} (hj : j < ms.length) (h : ms.getD j 0 = z) : ms.contains z = true := by
  simp only [List.contains_eq_mem, decide_eq_true_eq]
  have : ms.getD j 0 = ms[j] := by simp [List.getD_eq_getElem?_getD, hj]
  rw [← h, this]
  exact List.getElem_mem hj


/-- Numbers, each but once, in the order of their first place. -/
def addZ (acc : List Int) (z : Int) : List Int := if acc.contains z then acc else acc ++ [z]
def onceZ (zs : List Int) : List Int := zs.foldl addZ []
def allCh (es : List En) : List Int := es.flatMap En.chunks
theorem onceZ_snoc (zs : List Int) (z : Int) : onceZ (zs ++ [z]) = addZ (onceZ zs) z := by simp [onceZ]
theorem onceZ_le (zs : List Int) : (onceZ zs).length ≤ zs.length := by
  suffices ∀ (zs acc : List Int), (zs.foldl addZ acc).length ≤ acc.length + zs.length by simpa [onceZ] using this zs []
  intro zs
  induction zs with
  | nil => intro acc; simp
  | cons z r ih =>
    intro acc
    have h1 := ih (addZ acc z)
    have h2 : (addZ acc z).length ≤ acc.length + 1 := by unfold addZ; split <;> simp
    simp only [List.foldl_cons, List.length_cons]
    omega
/-- The chunks ahead of chunk k of entry j. -/
def upTo (es : List En) (j : Nat) (e : En) (k : Nat) : List Int := allCh (es.take j) ++ e.chunks.take k
theorem upTo_succ {es : List En} {j k : Nat} {e : En} {z : Int} (h : e.chunks[k]? = some z) : upTo es j e (k + 1) = upTo es j e k ++ [z] := by
  unfold upTo; rw [take_snoc_at h, List.append_assoc]
theorem upTo_end {es : List En} {j k : Nat} {e : En} (he : es[j]? = some e) (hk : e.chunks.length ≤ k) : upTo es j e k = allCh (es.take (j + 1)) := by
  unfold upTo; rw [List.take_of_length_le hk, take_snoc_at he]; simp [allCh]
theorem upTo_zero (es : List En) (j : Nat) (e : En) : upTo es j e 0 = allCh (es.take j) := by simp [upTo]
theorem allCh_le {es : List En} (h : ∀ e ∈ es, e.chunks.length ≤ 1024) : (allCh es).length ≤ es.length * 1024 := by
  induction es with
  | nil => simp [allCh]
  | cons e r ih =>
    have h1 := ih (fun x hx => h x (List.mem_cons_of_mem _ hx))
    have h2 := h e (List.mem_cons_self ..)
    simp only [allCh, List.flatMap_cons, List.length_append, List.length_cons] at h1 ⊢
    omega


theorem layFrom_all {es : List En} : ∀ {l : List En} {prev : Option En}, layFrom es prev l = 0 → ∀ e ∈ l, entFault e = 0
  | [], _, _, e, he => by simp at he
  | x :: r, prev, h, e, he => by
    simp only [layFrom] at h
    by_cases hb : entBad es prev x = 0
    · rw [if_pos hb] at h
      have hx : entFault x = 0 := by
        by_cases hx : entFault x = 0
        · exact hx
        · unfold entBad at hb; rw [if_neg hx] at hb; exact absurd hb hx
      rcases List.mem_cons.1 he with rfl | he
      · exact hx
      · exact layFrom_all h e he
    · rw [if_neg hb] at h; exact absurd h hb
theorem entFault_chunks {e : En} (h : entFault e = 0) : e.chunks.length ≤ 3 := by
  have hp := entFault_zero h
  cases h1 : formE e
  · rw [entFault_form hp h1] at h; omega
  · cases h2 : sizeE e
    · rw [entFault_size hp h1 h2] at h; omega
    · cases h3 : manyE e
      · rw [entFault_many hp h1 h2 h3] at h; omega
      · have h2' : 0 ≤ e.size ∧ e.size ≤ 24 := by simpa [sizeE] using h2
        have h3' : (e.chunks.length : Int) = (e.size + 7) / 8 := by simpa [manyE] using h3
        omega
theorem layFault_zero {es : List En} (h : layFault es = 0) : es.length ≤ 12 ∧ ∀ e ∈ es, entFault e = 0 ∧ e.chunks.length ≤ 3 := by
  unfold layFault at h
  split at h
  · omega
  · exact ⟨by omega, fun e he => ⟨layFrom_all h e he, entFault_chunks (layFrom_all h e he)⟩⟩
/-- A result: a code and numbers of its own. -/
def ResZ (q : Int) (zs : List Int) (w : World) (r : Ending) (w' : World) : Prop :=
  ∃ av cv, r = .returned (.agg #[.int .i64 q, .slice av zs.length cv]) ∧ w'.ownsRow w.heap.size 2 1 (.slice av zs.length cv) zs.length (zs.map (Value.int .i64)) ∧ Below w.heap.size w w'
def chunksList (es : List En) : List Int := if layFault es = 0 then onceZ (allCh es) else []

end Go.Proofs.YtjkmbicedbdifaaGreat
