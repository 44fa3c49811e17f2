/-
  The program's entries made of items.
-/
import Derived.Test.YtlbccbikepkfiaaGreatDoorJ2
import Derived.Test.YtlbccbikepkfiaaGreatDoorEntP
namespace Go.Proofs.YtlbccbikepkfiaaGreatDoor
open Go.RowKit Go.Maps
set_option linter.unusedVariables false
attribute [local go_sem ↓] Go.wp_at_zero Go.wp_at_succ

/-- append(nil, x...): x read, whether it has memory or not. -/
theorem wpList_append_nil {P : Program} {wr : World} {ops : Array Oper} {rest : List Oper} {o : Oper} {a : Act} {Q : Exit → Act → World → Prop} (hgd : o.guard = none) (s x : Operand) (t : TypeId)
    (ho : o.op = .call { callee := .builtin .append, args := #[s, x], argTypes := #[t, t] })
    (e : TypeId) (i : TypeInfo) (k : IntKind) (bytes : Nat) (hu : P.underlying t = some (.slice e)) (hi : P.info? e = some i) (hz : i.zero = some (.int k 0))
    (hsize : i.size = 1) (hby : i.bytes = bytes) (hs : a.eval s = .slice none 0 0)
    (xa : Option Addr) (m cap : Nat) (zs : List Int) (hx : a.eval x = .slice xa m cap) (hm : m = zs.length) (hr : Reads k wr xa zs)
    (h63 : 0 + m ≤ maxLen) (hbytes : (0 + m) * bytes ≤ 140737488355328)
    (h : ∀ av cv w', w'.ownsRow wr.heap.size e 1 (.slice av m cv) m (zs.map (Value.int k)) → Below wr.heap.size wr w' → wpList P ops Q rest (a.put o.dst (.slice av m cv)) w') :
    wpList P ops Q (o :: rest) a wr := by
  cases xa with
  | some ad =>
    refine wpList_append_own _ hgd s x t ho wr.heap.size e i (.int k 0) 1 bytes hu hi hz hsize hby rfl (by decide) _ 0 [] hs (World.ownsRow_nil _ _ _ _) ad m cap (zs.map (Value.int k)) hx (by simp [hm]) (fun j u hj => ?_) (ints_one _ _) h63 hbytes (Nat.le_refl _) ?_
    · have h0 : zs ≠ [] := fun e => by subst e; simp at hj
      obtain ⟨b, off, e1, hb, hc⟩ := hr h0
      simp only [Option.some.injEq] at e1
      subst e1
      exact reads_news hc j u hj
    · intro v' w' ho' hg _
      rw [List.nil_append, Nat.zero_add] at ho'
      obtain ⟨av, cv, rfl⟩ := ownsRow_shape ho'
      exact h av cv w' ho' ⟨hg.os, hg.tape, hg.output, hg.size, fun q hq => hg.block q hq (fun e => by simp [Value.ownBlock] at e)⟩
  | none =>
    have h0 : zs = [] := by
      by_cases h0 : zs = []
      · exact h0
      · obtain ⟨b, off, e1, _⟩ := hr h0; cases e1
    subst h0
    simp only [List.length_nil] at hm
    subst hm
    have hrun : (Builtin.append_ #[t, t] o.type #[.slice none 0 0, .slice none 0 cap]).run P wr = .ok (.slice none 0 0) wr := by
      simp [Builtin.append_, run_underlying hu, sizeOf, typeInfo, hi, Builtin.lenOf, Builtin.firstCells]
    refine wpList_plain hgd fun K hK => ?_
    unfold Oper.wp execOp
    simp only [ho, resolve, invoke, builtin, Sem.run_bind, Sem.run_pure, Result.andThen_ok, List.map_toArray, List.map_cons, List.map_nil, hs, hx, hrun]
    exact hK _ _ (h _ _ wr (World.ownsRow_nil _ _ _ _) (Below.refl _ _))


theorem Tryz.infoIt : (Tryz.prog.info? 62).map (fun i => (i.zero, i.size, i.bytes)) = some (some (.agg #[.int .i64 0, .slice none 0 0, .string ⟨#[]⟩, .int .i64 0]), 4, 56) := by kernel_rfl

/-- An item's cells. -/
def cellsI (r : Rw) : List Value := [.int .i64 r.e.size, .slice r.a r.e.chunks.length r.c, .string (str r.e.path), .int .i64 r.e.kind]
def rowI (rs : List Rw) : List Value := rs.flatMap cellsI
theorem rowI_append (a b : List Rw) : rowI (a ++ b) = rowI a ++ rowI b := by simp [rowI]
theorem rowI_length : ∀ rs : List Rw, (rowI rs).length = rs.length * 4
  | [] => rfl
  | r :: rs => by
    have := rowI_length rs
    simp only [rowI, List.flatMap_cons, List.length_append, List.length_cons] at this ⊢
    rw [this]; simp [cellsI]; omega
theorem rowI_get : ∀ (rs : List Rw) (i q : Nat) (r : Rw), rs[i]? = some r → q < 4 → (rowI rs)[i * 4 + q]? = (cellsI r)[q]?
  | [], i, q, r, h, _ => by simp at h
  | x :: rs, 0, q, r, h, hq => by
    simp only [List.getElem?_cons_zero, Option.some.injEq] at h
    subst h
    simp only [rowI, List.flatMap_cons, Nat.zero_mul, Nat.zero_add]
    rw [List.getElem?_append_left (by simp [cellsI]; omega)]
  | x :: rs, i + 1, q, r, h, hq => by
    have := rowI_get rs i q r (by simpa using h) hq
    rw [← this]
    simp only [rowI, List.flatMap_cons]
    rw [List.getElem?_append_right (by simp [cellsI]; omega)]
    congr 1
    simp [cellsI]; omega
theorem rowI_one (rs : List Rw) : ∀ u ∈ rowI rs, u.oneCell' = true := by
  intro u hu
  simp only [rowI, List.mem_flatMap] at hu
  obtain ⟨r, _, hr⟩ := hu
  simp only [cellsI, List.mem_cons, List.not_mem_nil, or_false] at hr
  rcases hr with rfl | rfl | rfl | rfl <;> rfl
/-- The slice at address a reads as items of the entries es. -/
def RdI (w : World) (a : Option Addr) (es : List En) : Prop :=
  es ≠ [] → ∃ (b off : Nat) (A : Nat → Option Addr) (C : Nat → Nat), a = some ⟨b, off, none⟩ ∧ b < w.heap.size ∧ ∀ i e, es[i]? = some e →
    w.cell? ⟨b, off + i * 4, none⟩ = some (.int .i64 e.size) ∧ w.cell? ⟨b, off + i * 4 + 1, none⟩ = some (.slice (A i) e.chunks.length (C i)) ∧ w.cell? ⟨b, off + i * 4 + 2, none⟩ = some (.string (str e.path)) ∧
    w.cell? ⟨b, off + i * 4 + 3, none⟩ = some (.int .i64 e.kind) ∧ Reads .i64 w (A i) e.chunks
theorem RdI.below {w w' : World} {a : Option Addr} {es : List En} (h : RdI w a es) (hk : Below w.heap.size w w') : RdI w' a es := by
  intro hz
  obtain ⟨b, off, A, C, e, hb, hc⟩ := h hz
  refine ⟨b, off, A, C, e, Nat.lt_of_lt_of_le hb hk.size, fun i x hx => ?_⟩
  obtain ⟨c0, c1, c2, c3, r⟩ := hc i x hx
  exact ⟨(hk.cell (p := ⟨b, off + i * 4, none⟩) hb).trans c0, (hk.cell (p := ⟨b, off + i * 4 + 1, none⟩) hb).trans c1, (hk.cell (p := ⟨b, off + i * 4 + 2, none⟩) hb).trans c2, (hk.cell (p := ⟨b, off + i * 4 + 3, none⟩) hb).trans c3, r.below hk⟩
theorem RdI.at {w : World} {a : Option Addr} {es : List En} (h : RdI w a es) {k : Nat} (hk : k < es.length) :
    ∃ b off e x c, a = some ⟨b, off, none⟩ ∧ b < w.heap.size ∧ es[k]? = some e ∧ w.cell? ⟨b, off + k * 4, none⟩ = some (.int .i64 e.size) ∧ w.cell? ⟨b, off + k * 4 + 1, none⟩ = some (.slice x e.chunks.length c) ∧ w.cell? ⟨b, off + k * 4 + 2, none⟩ = some (.string (str e.path)) ∧
      w.cell? ⟨b, off + k * 4 + 3, none⟩ = some (.int .i64 e.kind) ∧ Reads .i64 w x e.chunks := by
  obtain ⟨b, off, A, C, e, hb, hc⟩ := h (by intro e; simp [e] at hk)
  have hx : es[k]? = some es[k] := List.getElem?_eq_getElem hk
  obtain ⟨c0, c1, c2, c3, r⟩ := hc k _ hx
  exact ⟨b, off, es[k], A k, C k, e, hb, hx, c0, c1, c2, c3, r⟩
/-- v is a row of items made since w0, whose chunks were read then. -/
def LI (w0 w : World) (v : Value) (es : List En) : Prop :=
  ∃ rs : List Rw, rs.map Rw.e = es ∧ w.ownsRow w0.heap.size 62 4 v es.length (rowI rs) ∧ ∀ r ∈ rs, Reads .i64 w0 r.a r.e.chunks
theorem LI.shape {w0 w : World} {v : Value} {es : List En} (h : LI w0 w v es) : ∃ a c, v = .slice a es.length c := by
  obtain ⟨rs, _, h1, _⟩ := h
  exact ownsRow_shape h1
theorem LI.nil (w0 w : World) : LI w0 w (.slice none 0 0) [] :=
  ⟨[], rfl, World.ownsRow_nil _ _ _ _, fun r hr => by simp at hr⟩
theorem LI.below {w0 w w' : World} {v : Value} {es : List En} (h : LI w0 w v es) (hk : Below w.heap.size w w') : LI w0 w' v es := by
  obtain ⟨rs, he, h1, h2⟩ := h
  exact ⟨rs, he, ownsRow_below h1 hk, h2⟩
theorem LI.push {w0 w2 : World} {v' : Value} {es : List En} {rs : List Rw} {e : En} {a : Option Addr} {c m : Nat} (he : rs.map Rw.e = es) (hm : m = es.length)
    (h2 : ∀ r ∈ rs, Reads .i64 w0 r.a r.e.chunks) (hr : Reads .i64 w0 a e.chunks)
    (hv' : w2.ownsRow w0.heap.size 62 4 v' (m + 1) (rowI rs ++ cellsI ⟨e, a, c⟩)) : LI w0 w2 v' (es ++ [e]) := by
  subst hm
  refine ⟨rs ++ [⟨e, a, c⟩], by rw [List.map_append, he]; rfl, ?_, fun r hx => ?_⟩
  · rw [rowI_append, List.length_append]
    simpa [rowI] using hv'
  · rcases List.mem_append.1 hx with hx | hx
    · exact h2 r hx
    · simp only [List.mem_singleton] at hx
      subst hx
      exact hr
theorem LI.rd {w0 w : World} {a : Option Addr} {n c : Nat} {es : List En} (h : LI w0 w (.slice a n c) es) (hb : Below w0.heap.size w0 w) : RdI w a es := by
  intro hz
  obtain ⟨rs, he, h1, h2⟩ := h
  have h0 : 0 < es.length := List.length_pos_iff.2 hz
  have hl : rs.length = es.length := by rw [← he, List.length_map]
  rcases h1.2 with ⟨_, h0'⟩ | ⟨g, cap, cur, h', hb', hh, hnc, hcm, hcs, htake⟩
  · omega
  · simp only [Value.slice.injEq] at h'
    obtain ⟨rfl, rfl, rfl⟩ := h'
    refine ⟨g, 0, fun i => (rs[i]?.map Rw.a).getD none, fun i => (rs[i]?.map Rw.c).getD 0, rfl, (h1.lt g rfl).2, fun i e hi => ?_⟩
    have hi0 : i < es.length := (List.getElem?_eq_some_iff.1 hi).1
    obtain ⟨r, hr⟩ : ∃ r, rs[i]? = some r := ⟨rs[i]'(by omega), List.getElem?_eq_getElem (by omega)⟩
    have hre : r.e = e := by
      have : (rs.map Rw.e)[i]? = some r.e := by rw [List.getElem?_map, hr]; rfl
      rw [he, hi] at this
      exact (Option.some.inj this).symm
    have hc := fun q hq => (h1.cellAt (i * 4 + q) (by omega)).trans (rowI_get rs i q r hr hq)
    simp only [hr, Option.map_some, Option.getD_some, Nat.zero_add]
    rw [← hre]
    exact ⟨hc 0 (by decide), hc 1 (by decide), hc 2 (by decide), hc 3 (by decide), (h2 r (List.mem_of_getElem? hr)).below hb⟩

end Go.Proofs.YtlbccbikepkfiaaGreatDoor
