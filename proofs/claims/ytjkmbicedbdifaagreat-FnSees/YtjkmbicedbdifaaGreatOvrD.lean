/-
  Rows of layers that the model draws.
-/
import Derived.Test.YtjkmbicedbdifaaGreatDrawI
import Derived.Test.YtjkmbicedbdifaaGreatJ3
import Derived.Maps.AppendAt
namespace Go.Proofs.YtjkmbicedbdifaaGreat
open Go.RowKit Go.Maps
set_option linter.unusedVariables false
attribute [local go_sem ↓] Go.wp_at_zero Go.wp_at_succ

/-- A layer with where it lies. -/
structure Ly where
  es : List En
  a : Option Addr
  c : Nat
def lyV (x : Ly) : Value := .slice x.a x.es.length x.c
/-- A row of layers, each in blocks of its own. -/
def OwnLs (p base : Nat) (w : World) (v : Value) (rs : List Ly) : Prop :=
  w.ownsRow base 30 1 v rs.length (rs.map lyV) ∧ ∀ x ∈ rs, ∃ B T, p < B ∧ T ≤ w.heap.size ∧ (∀ g, v.ownBlock = some g → g < B ∨ T ≤ g) ∧ GE B T w (lyV x) x.es
theorem OwnLs.made (p : Nat) (w : World) : OwnLs p w.heap.size (w.alloc (.cells #[] 30)) (.slice (some ⟨w.heap.size, 0, none⟩) 0 0) [] :=
  ⟨World.ownsRow_made w #[] 0 (Nat.le_refl _) (Nat.zero_le _) rfl, fun x hx => by simp at hx⟩
theorem OwnLs.kept {p base : Nat} {w w' : World} {v : Value} {rs : List Ly} (h : OwnLs p base w v rs) (hk : Kept (fun b => b = p) w w') (hp : p < base) : OwnLs p base w' v rs := by
  refine ⟨h.1.kept (row := some p) ⟨hk.os, hk.tape, hk.output, hk.size, fun k hk2 hne => hk.block k hk2 (fun e => hne (by rw [e]))⟩ (Or.inr fun e => by have := (h.1.lt p e).1; omega), fun x hx => ?_⟩
  obtain ⟨B, T, h1, h2, h3, h4⟩ := h.2 x hx
  exact ⟨B, T, h1, Nat.le_trans h2 hk.size, h3, h4.kept hk (fun b hb _ e => by omega)⟩
theorem OwnLs.below {p base : Nat} {w w' : World} {v : Value} {rs : List Ly} (h : OwnLs p base w v rs) (hk : Below w.heap.size w w') : OwnLs p base w' v rs := by
  refine ⟨h.1.kept (row := none) ⟨hk.os, hk.tape, hk.output, hk.size, fun k hk2 _ => hk.block k hk2⟩ ?_, fun x hx => ?_⟩
  · cases hv : v.ownBlock
    · exact Or.inl rfl
    · exact Or.inr (by simp)
  · obtain ⟨B, T, h1, h2, h3, h4⟩ := h.2 x hx
    exact ⟨B, T, h1, Nat.le_trans h2 hk.size, h3, h4.below hk⟩
/-- A layer is appended. -/
theorem OwnLs.snoc {p base : Nat} {w w2 : World} {v v' : Value} {rs : List Ly} {x : Ly} {B T : Nat} {o : Obj} (h : OwnLs p base w v rs) (hp : p < B) (hT : T ≤ w.heap.size) (hvB : ∀ g, v.ownBlock = some g → g < B ∨ T ≤ g) (hG : GE B T w (lyV x) x.es)
    (hown : w2.ownsRow base 30 1 v' (rs.length + 1) (rs.map lyV ++ [lyV x])) (hg : (w.alloc o).grownBy w2 v.ownBlock) (hv' : v'.ownBlock = v.ownBlock ∨ v'.ownBlock = some (w.alloc o).heap.size) : OwnLs p base w2 v' (rs ++ [x]) := by
  have hs : (w.alloc o).heap.size = w.heap.size + 1 := by simp
  have hA := below_alloc w o
  have hgs := hg.size
  have step : ∀ y B T, p < B → T ≤ w.heap.size → (∀ g, v.ownBlock = some g → g < B ∨ T ≤ g) → GE B T w (lyV y) y.es → ∃ B T, p < B ∧ T ≤ w2.heap.size ∧ (∀ g, v'.ownBlock = some g → g < B ∨ T ≤ g) ∧ GE B T w2 (lyV y) y.es := by
    intro y B T h1 h2 h3 h4
    refine ⟨B, T, h1, by omega, fun g hgv => ?_, (h4.below hA).kept (S := fun b => v.ownBlock = some b) ⟨hg.os, hg.tape, hg.output, hg.size, fun k hk hn => hg.block k hk (fun e => hn e.symm)⟩ (fun b hb ht e => by rcases h3 b e with h5 | h5 <;> omega)⟩
    rcases hv' with e | e
    · exact h3 g (e.symm.trans hgv)
    · rw [e] at hgv
      have := Option.some.inj hgv
      exact Or.inr (by omega)
  refine ⟨by simpa using hown, fun y hy => ?_⟩
  rcases List.mem_append.1 hy with hy | hy
  · obtain ⟨B, T, h1, h2, h3, h4⟩ := h.2 y hy
    exact step y B T h1 h2 h3 h4
  · simp only [List.mem_singleton] at hy
    subst hy
    exact step _ B T hp hT hvB hG
theorem OwnLs.shape {p base : Nat} {w : World} {v : Value} {rs : List Ly} (h : OwnLs p base w v rs) : ∃ a c, v = .slice a rs.length c := ownsRow_shape h.1
theorem OwnLs.rd {p base : Nat} {w : World} {a : Option Addr} {n c : Nat} {rs : List Ly} (h : OwnLs p base w (.slice a n c) rs) : RdL w a (rs.map Ly.es) := by
  intro hz
  have hne : rs ≠ [] := fun e => hz (by rw [e]; rfl)
  have hpos : 0 < rs.length := List.length_pos_iff.2 hne
  have hrow := h.1
  rcases hrow.2 with ⟨h', h0⟩ | ⟨g, cap, cur, h', hb, hgb, _⟩
  · omega
  · simp only [Value.slice.injEq] at h'
    obtain ⟨rfl, rfl, rfl⟩ := h'
    have hlt : g < w.heap.size := (Array.getElem?_eq_some_iff.1 hgb).1
    refine ⟨g, 0, fun i => ((rs[i]?).map Ly.a).getD none, fun i => ((rs[i]?).map Ly.c).getD 0, rfl, hlt, fun i es he => ?_⟩
    rw [List.getElem?_map] at he
    obtain ⟨x, hx, rfl⟩ := Option.map_eq_some_iff.1 he
    have hi : i < rs.length := (List.getElem?_eq_some_iff.1 hx).1
    simp only [hx, Option.map_some, Option.getD_some, Nat.zero_add]
    refine ⟨?_, ?_⟩
    · have := hrow.cellAt i (by omega)
      rw [this, List.getElem?_map, hx]; rfl
    · obtain ⟨B, T, _, _, _, h4⟩ := h.2 x (List.mem_of_getElem? hx)
      exact GE.rd (show GE B T w (.slice x.a x.es.length x.c) x.es from h4)
theorem infoLs : (Tryz.prog.info? 30).map (fun i => (i.zero, i.size, i.bytes)) = some (some (.slice none 0 0), 1, 24) := by kernel_rfl
end Go.Proofs.YtjkmbicedbdifaaGreat
