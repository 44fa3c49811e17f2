/-
  Rows of entries that are owned: their cells, one entry more, a list that shares its chunks, a list whose chunks are its own.
-/
import Derived.Test.YtcnoabkpilmanaaEntL
import Derived.Test.YtcnoabkpilmanaaCut
import Derived.Test.YtcnoabkpilmanaaInts
import Derived.Deep.AppendLies
import Derived.Deep.DrawnRows
namespace Go.Proofs.Ytcnoabkpilmanaa
open Go.RowKit Go.Maps
set_option linter.unusedVariables false

theorem Try.infoEn : (Try.prog.info? 36).map (fun i => (i.zero, i.size, i.bytes)) = some (some (.agg #[.string ⟨#[]⟩, .int .i64 0, .int .i64 0, .slice none 0 0]), 4, 56) := by kernel_rfl

/-- An entry in memory: what it is, and where its chunks lie. -/
structure Rw where
  e : En
  a : Option Addr
  c : Nat
def cellsR (r : Rw) : List Value := [.string (str r.e.path), .int .i64 r.e.kind, .int .i64 r.e.size, .slice r.a r.e.chunks.length r.c]
def rowR (rs : List Rw) : List Value := rs.flatMap cellsR
theorem rowR_append (a b : List Rw) : rowR (a ++ b) = rowR a ++ rowR b := by simp [rowR]
theorem rowR_length : ∀ rs : List Rw, (rowR rs).length = rs.length * 4
  | [] => rfl
  | r :: rs => by
    have := rowR_length rs
    simp only [rowR, List.flatMap_cons, List.length_append, List.length_cons] at this ⊢
    rw [this]; simp [cellsR]; omega
theorem rowR_get : ∀ (rs : List Rw) (i q : Nat) (r : Rw), rs[i]? = some r → q < 4 → (rowR rs)[i * 4 + q]? = (cellsR r)[q]?
  | [], i, q, r, h, _ => by simp at h
  | x :: rs, 0, q, r, h, hq => by
    simp only [List.getElem?_cons_zero, Option.some.injEq] at h
    subst h
    simp only [rowR, List.flatMap_cons, Nat.zero_mul, Nat.zero_add]
    rw [List.getElem?_append_left (by simp [cellsR]; omega)]
  | x :: rs, i + 1, q, r, h, hq => by
    have := rowR_get rs i q r (by simpa using h) hq
    rw [← this]
    simp only [rowR, List.flatMap_cons]
    rw [List.getElem?_append_right (by simp [cellsR]; omega)]
    congr 1
    simp [cellsR]; omega
theorem rowR_drop : ∀ (rs : List Rw) (k : Nat), (rowR rs).drop (k * 4) = rowR (rs.drop k)
  | rs, 0 => by simp
  | [], k + 1 => by simp [rowR]
  | x :: rs, k + 1 => by
    have := rowR_drop rs k
    rw [List.drop_succ_cons, ← this]
    simp only [rowR, List.flatMap_cons]
    rw [show (k + 1) * 4 = (cellsR x).length + k * 4 from by simp [cellsR]; omega, List.drop_length_add_append]
theorem rowR_take : ∀ (rs : List Rw) (k : Nat), (rowR rs).take (k * 4) = rowR (rs.take k)
  | rs, 0 => by simp [rowR]
  | [], k + 1 => by simp [rowR]
  | x :: rs, k + 1 => by
    have := rowR_take rs k
    rw [List.take_succ_cons]
    simp only [rowR, List.flatMap_cons] at this ⊢
    rw [show (k + 1) * 4 = (cellsR x).length + k * 4 from by simp [cellsR]; omega, List.take_length_add_append, this]
theorem rowR_one (rs : List Rw) : ∀ u ∈ rowR rs, u.oneCell' = true := by
  intro u hu
  simp only [rowR, List.mem_flatMap] at hu
  obtain ⟨r, _, hr⟩ := hu
  simp only [cellsR, List.mem_cons, List.not_mem_nil, or_false] at hr
  rcases hr with rfl | rfl | rfl | rfl <;> rfl

/-- v is a row of entries; their chunks are read where they lie. -/
def SE (B : Nat) (w : World) (v : Value) (es : List En) : Prop :=
  ∃ rs : List Rw, rs.map Rw.e = es ∧ w.ownsRow B 36 4 v es.length (rowR rs) ∧ ∀ r ∈ rs, Reads .i64 w r.a r.e.chunks
/-- v is a row of entries, each one's chunks in a block of their own; all blocks from B on and below T. -/
def GE (B T : Nat) (w : World) (v : Value) (es : List En) : Prop :=
  ∃ rs : List Rw, rs.map Rw.e = es ∧ w.ownsRow B 36 4 v es.length (rowR rs) ∧
    (∀ r ∈ rs, w.ownsRow B 2 1 (.slice r.a r.e.chunks.length r.c) r.e.chunks.length (r.e.chunks.map (Value.int .i64))) ∧
    rs.Pairwise (fun r r' => ∀ g, r.a.map Addr.block = some g → r'.a.map Addr.block ≠ some g) ∧
    (∀ r ∈ rs, ∀ g, r.a.map Addr.block = some g → g < T) ∧ ∀ b, v.ownBlock = some b → b < T

theorem ownInts_reads {w : World} {B : Nat} {e : TypeId} {k : IntKind} {a : Option Addr} {n c : Nat} {zs : List Int} (h : w.ownsRow B e 1 (.slice a n c) n (zs.map (Value.int k))) (hn : n = zs.length) : Reads k w a zs := by
  intro hz
  have h0 : 0 < n := by rw [hn]; exact List.length_pos_iff.2 hz
  obtain ⟨g, cap, hv, hg, hgl, hc, hf⟩ := ownsRow_ints h hn h0
  simp only [Value.slice.injEq, true_and] at hv
  exact ⟨g, 0, hv.1, hgl, fun i hi => by rw [Nat.zero_add]; exact hc i (by omega)⟩
theorem GE.se {B T : Nat} {w : World} {v : Value} {es : List En} (h : GE B T w v es) : SE B w v es := by
  obtain ⟨rs, e, h1, h2, _⟩ := h
  exact ⟨rs, e, h1, fun r hr => ownInts_reads (h2 r hr) rfl⟩
theorem SE.shape {B : Nat} {w : World} {v : Value} {es : List En} (h : SE B w v es) : ∃ a c, v = .slice a es.length c := by
  obtain ⟨rs, _, h1, _⟩ := h
  exact ownsRow_shape h1
theorem SE.rd {B : Nat} {w : World} {a : Option Addr} {n c : Nat} {es : List En} (h : SE B w (.slice a n c) es) : RdE w a es := by
  intro hz
  obtain ⟨rs, he, h1, h2⟩ := h
  have h0 : 0 < es.length := List.length_pos_iff.2 hz
  have hl : rs.length = es.length := by rw [← he, List.length_map]
  rcases h1.2 with ⟨_, h0'⟩ | ⟨g, cap, cur, h', hb, hh, hnc, hcm, hcs, htake⟩
  · omega
  · simp only [Value.slice.injEq] at h'
    obtain ⟨rfl, rfl, rfl⟩ := h'
    refine ⟨g, 0, fun i => (rs[i]?.map Rw.a).getD none, fun i => (rs[i]?.map Rw.c).getD 0, rfl, (h1.lt g rfl).2, fun i e hi => ?_⟩
    have hi0 : i < es.length := (List.getElem?_eq_some_iff.1 hi).1
    obtain ⟨r, hr⟩ : ∃ r, rs[i]? = some r := ⟨rs[i]'(by omega), List.getElem?_eq_getElem (by omega)⟩
    have hre : r.e = e := by
      have : (rs.map Rw.e)[i]? = some r.e := by rw [List.getElem?_map, hr]; rfl
      rw [he, hi] at this
      exact (Option.some.inj this).symm
    have hc := fun q hq => (h1.cellAt (i * 4 + q) (by omega)).trans (rowR_get rs i q r hr hq)
    simp only [hr, Option.map_some, Option.getD_some, Nat.zero_add]
    rw [← hre]
    exact ⟨hc 0 (by decide), hc 1 (by decide), hc 2 (by decide), hc 3 (by decide), h2 r (List.mem_of_getElem? hr)⟩
theorem GE.rd {B T : Nat} {w : World} {a : Option Addr} {n c : Nat} {es : List En} (h : GE B T w (.slice a n c) es) : RdE w a es := h.se.rd
theorem SE.below {B : Nat} {w w' : World} {v : Value} {es : List En} (h : SE B w v es) (hk : Below w.heap.size w w') : SE B w' v es := by
  obtain ⟨rs, he, h1, h2⟩ := h
  exact ⟨rs, he, ownsRow_below h1 hk, fun r hr => (h2 r hr).below hk⟩
theorem own_block {a : Option Addr} {n c g : Nat} (hb : (Value.slice a n c).ownBlock = some g) : a.map Addr.block = some g := by
  cases a with
  | none => simp [Value.ownBlock] at hb
  | some x => simpa [Value.ownBlock] using hb
theorem block_own {a : Option Addr} {n c g : Nat} (hb : a.map Addr.block = some g) : (Value.slice a n c).ownBlock = some g := by
  cases a with
  | none => simp at hb
  | some x => simpa [Value.ownBlock] using hb
theorem GE.kept {S : Nat → Prop} {B T : Nat} {w w' : World} {v : Value} {es : List En} (h : GE B T w v es) (hk : Kept S w w') (hS : ∀ b, B ≤ b → b < T → ¬ S b) : GE B T w' v es := by
  obtain ⟨rs, he, h1, h2, h3, h4, h5⟩ := h
  exact ⟨rs, he, ownsRow_kept h1 hk (fun b hb => hS b (h1.lt b hb).1 (h5 b hb)), fun r hr => ownsRow_kept (h2 r hr) hk (fun b hb => hS b ((h2 r hr).lt b hb).1 (h4 r hr b (own_block hb))), h3, h4, h5⟩
theorem GE.below {B T : Nat} {w w' : World} {v : Value} {es : List En} (h : GE B T w v es) (hk : Below w.heap.size w w') : GE B T w' v es :=
  h.kept (S := fun _ => False) (Kept.of_below hk) (fun _ _ _ => id)
theorem GE.mono {B B' T : Nat} {w : World} {v : Value} {es : List En} (h : GE B T w v es) (hB : B' ≤ B) : GE B' T w v es := by
  obtain ⟨rs, he, h1, h2, h3, h4, h5⟩ := h
  exact ⟨rs, he, ownsRow_mono h1 hB, fun r hr => ownsRow_mono (h2 r hr) hB, h3, h4, h5⟩
theorem GE.wide {B T T' : Nat} {w : World} {v : Value} {es : List En} (h : GE B T w v es) (hT : T ≤ T') : GE B T' w v es := by
  obtain ⟨rs, he, h1, h2, h3, h4, h5⟩ := h
  exact ⟨rs, he, h1, h2, h3, fun r hr g hg => Nat.lt_of_lt_of_le (h4 r hr g hg) hT, fun b hb => Nat.lt_of_lt_of_le (h5 b hb) hT⟩
theorem GE.nil (B T : Nat) (w : World) : GE B T w (.slice none 0 0) [] :=
  ⟨[], rfl, World.ownsRow_nil _ _ _ _, fun r hr => by simp at hr, List.Pairwise.nil, fun r hr => by simp at hr, fun b hb => by simp [Value.ownBlock] at hb⟩
/-- One entry more at a list's end. -/
theorem GE.push {B : Nat} {w w1 w2 : World} {v v' : Value} {es : List En} {rs : List Rw} {e : En} {a : Option Addr} {c : Nat} (he : rs.map Rw.e = es)
    (h1 : w.ownsRow B 36 4 v es.length (rowR rs))
    (h2 : ∀ r ∈ rs, w.ownsRow B 2 1 (.slice r.a r.e.chunks.length r.c) r.e.chunks.length (r.e.chunks.map (Value.int .i64)))
    (h3 : rs.Pairwise (fun r r' => ∀ g, r.a.map Addr.block = some g → r'.a.map Addr.block ≠ some g)) (hB : B ≤ w.heap.size) (hbel : Below w.heap.size w w1)
    (hown : w1.ownsRow w.heap.size 2 1 (.slice a e.chunks.length c) e.chunks.length (e.chunks.map (Value.int .i64)))
    (hv' : w2.ownsRow B 36 4 v' (es.length + 1) (rowR rs ++ cellsR ⟨e, a, c⟩))
    (hk : Kept (fun b => v.ownBlock = some b) w1 w2) : GE B w2.heap.size w2 v' (es ++ [e]) := by
  have hA : ∀ r ∈ rs, ∀ g', r.a.map Addr.block = some g' → g' < w.heap.size := fun r hr g' hg => ((h2 r hr).lt g' (block_own hg)).2
  have hg0 : ∀ g', a.map Addr.block = some g' → w.heap.size ≤ g' ∧ g' < w1.heap.size := fun g' hg => hown.lt g' (block_own hg)
  have k1 := ownsRow_below h1 hbel
  have hsz := hk.size
  have hsz1 := hbel.size
  refine ⟨rs ++ [⟨e, a, c⟩], by rw [List.map_append, he]; rfl, ?_, ?_, ?_, ?_, fun b hb => (hv'.lt b hb).2⟩
  · rw [rowR_append, List.length_append]
    simpa [rowR] using hv'
  · intro r hr
    rcases List.mem_append.1 hr with hr | hr
    · have k2 := ownsRow_below (h2 r hr) hbel
      exact ownsRow_kept k2 hk (fun b hb hS => ownsRow_apart k1 k2 (by decide) hS hb)
    · simp only [List.mem_singleton] at hr
      subst hr
      exact ownsRow_kept (ownsRow_mono hown hB) hk (fun b hb hS => ownsRow_apart k1 hown (by decide) hS hb)
  · rw [List.pairwise_append]
    refine ⟨h3, List.pairwise_singleton _ _, fun r hr r' hr' g hg hg' => ?_⟩
    simp only [List.mem_singleton] at hr'
    subst hr'
    have := hA r hr g hg
    have := hg0 g hg'
    omega
  · intro r hr g hg
    rcases List.mem_append.1 hr with hr | hr
    · have := hA r hr g hg
      omega
    · simp only [List.mem_singleton] at hr
      subst hr
      have := hg0 g hg
      omega
/-- One entry more that shares its chunks. -/
theorem SE.push {B : Nat} {w w2 : World} {v v' : Value} {es : List En} {rs : List Rw} {e : En} {a : Option Addr} {c : Nat} (he : rs.map Rw.e = es)
    (h2 : ∀ r ∈ rs, Reads .i64 w2 r.a r.e.chunks) (hr : Reads .i64 w2 a e.chunks)
    (hv' : w2.ownsRow B 36 4 v' (es.length + 1) (rowR rs ++ cellsR ⟨e, a, c⟩)) : SE B w2 v' (es ++ [e]) := by
  refine ⟨rs ++ [⟨e, a, c⟩], by rw [List.map_append, he]; rfl, ?_, fun r hx => ?_⟩
  · rw [rowR_append, List.length_append]
    simpa [rowR] using hv'
  · rcases List.mem_append.1 hx with hx | hx
    · exact h2 r hx
    · simp only [List.mem_singleton] at hx
      subst hx
      exact hr

end Go.Proofs.Ytcnoabkpilmanaa
