/-
  The model's copy of a layer.
-/
import Derived.Test.YtcnoabkpilmanaaEntG
namespace Go.Proofs.Ytcnoabkpilmanaa
open Go.RowKit Go.Maps
set_option linter.unusedVariables false
attribute [local go_sem ↓] Go.wp_at_zero Go.wp_at_succ

/-- append(out, x...): out owned and made, x read, whether it has memory or not. -/
theorem wpList_append_take {P : Program} {wr : World} {ops : Array Oper} {rest : List Oper} {o : Oper} {a : Act} {Q : Exit → Act → World → Prop} (hgd : o.guard = none) (s x : Operand) (t : TypeId)
    (ho : o.op = .call { callee := .builtin .append, args := #[s, x], argTypes := #[t, t] })
    (base : Nat) (e : TypeId) (i : TypeInfo) (k : IntKind) (bytes : Nat) (hu : P.underlying t = some (.slice e)) (hi : P.info? e = some i) (hz : i.zero = some (.int k 0))
    (hsize : i.size = 1) (hby : i.bytes = bytes) (g c n : Nat) (ys : List Int) (hs : a.eval s = .slice (some ⟨g, 0, none⟩) n c) (hown : wr.ownsRow base e 1 (.slice (some ⟨g, 0, none⟩) n c) n (ys.map (Value.int k)))
    (xa : Option Addr) (m cap : Nat) (zs : List Int) (hx : a.eval x = .slice xa m cap) (hm : m = zs.length) (hr : Reads k wr xa zs)
    (N : Nat) (hN : n + m = N) (h63 : n + m ≤ maxLen) (hbytes : (n + m) * bytes ≤ 140737488355328) (hbase : base ≤ wr.heap.size)
    (h : ∀ av cv w', w'.ownsRow base e 1 (.slice av N cv) N ((ys ++ zs).map (Value.int k)) → Kept (fun b => b = g) wr w' → wpList P ops Q rest (a.put o.dst (.slice av N cv)) w') :
    wpList P ops Q (o :: rest) a wr := by
  subst hN
  cases xa with
  | some ad =>
    refine wpList_append_own _ hgd s x t ho base e i (.int k 0) 1 bytes hu hi hz hsize hby rfl (by decide) _ n _ hs hown ad m cap (zs.map (Value.int k)) hx (by simp [hm]) (fun j u hj => ?_) (ints_one _ _) h63 hbytes hbase ?_
    · have h0 : zs ≠ [] := fun e => by subst e; simp at hj
      obtain ⟨b, off, e1, hb, hc⟩ := hr h0
      simp only [Option.some.injEq] at e1
      subst e1
      exact reads_news hc j u hj
    · intro v' w' ho' hg _
      rw [← List.map_append] at ho'
      obtain ⟨av, cv, rfl⟩ := ownsRow_shape ho'
      exact h av cv w' ho' ⟨hg.os, hg.tape, hg.output, hg.size, fun q hq hn => hg.block q hq (fun e => hn (by simp [Value.ownBlock] at e; exact e))⟩
  | none =>
    have h0 : zs = [] := by
      by_cases h0 : zs = []
      · exact h0
      · obtain ⟨b, off, e1, _⟩ := hr h0; cases e1
    subst h0
    simp only [List.length_nil] at hm
    subst hm
    have hc : n ≤ c := ownsRow_cap hown
    have hrun : (Builtin.append_ #[t, t] o.type #[.slice (some ⟨g, 0, none⟩) n c, .slice none 0 cap]).run P wr = .ok (.slice (some ⟨g, 0, none⟩) (n + 0) c) wr := by
      simp [Builtin.append_, run_underlying hu, sizeOf, typeInfo, hi, Builtin.lenOf, Builtin.firstCells, storeCells, hc]
    refine wpList_plain hgd fun K hK => ?_
    unfold Oper.wp execOp
    simp only [ho, resolve, invoke, builtin, Sem.run_bind, Sem.run_pure, Result.andThen_ok, List.map_toArray, List.map_cons, List.map_nil, hs, hx, hrun]
    exact hK _ _ (h _ _ wr (by simpa using hown) (Kept.refl _ _))

/-- append(out, x) behind a walk that wrote the new block's number its own way. -/
theorem wpList_append_put {P : Program} {wr : World} {news : Array Value} {ops : Array Oper} {rest : List Oper} {o : Oper} {a : Act} {Q : Exit → Act → World → Prop} (hgd : o.guard = none) (s x : Operand) (t : TypeId)
    (ho : o.op = .call { callee := .builtin .append, args := #[s, x], argTypes := #[t, t] })
    (base : Nat) (e : TypeId) (i : TypeInfo) (z : Value) (size bytes : Nat) (ht : P.underlying t = some (.slice e)) (hi : P.info? e = some i) (hz : i.zero = some z)
    (hsize : i.size = size) (hby : i.bytes = bytes) (hzs : z.cells.size = size) (hsz : 0 < size)
    (v : Value) (n : Nat) (xs : List Value) (hs : a.eval s = v) (hown : wr.ownsRow base e size v n xs)
    (H : Nat) (hH : wr.heap.size = H) (hx : a.eval x = .slice (some ⟨H, 0, none⟩) 1 1) (hl : news.size = size) (h1 : ∀ u ∈ news.toList, u.oneCell' = true)
    (h63 : n + 1 ≤ maxLen) (hbytes : (n + 1) * bytes ≤ 140737488355328) (hbase : base ≤ wr.heap.size)
    (h : ∀ av cv w', w'.ownsRow base e size (.slice av (n + 1) cv) (n + 1) (xs ++ news.toList) → Kept (fun b => v.ownBlock = some b) wr w' → wpList P ops Q rest (a.put o.dst (.slice av (n + 1) cv)) w') :
    wpList P ops Q (o :: rest) a (wr.alloc (.cells news e)) := by
  subst hH
  refine wpList_append_one hgd s x t ho base e i z size bytes ht hi hz hsize hby hzs hsz v n xs hs hown hx hl h1 h63 hbytes hbase fun v' w' h2 h3 => ?_
  obtain ⟨av, cv, rfl⟩ := ownsRow_shape h2
  exact h av cv w' h2 h3

theorem row_addr {w : World} {B : Nat} {e : TypeId} {size n : Nat} {a : Option Addr} {c : Nat} {xs : List Value} (h : w.ownsRow B e size (.slice a n c) n xs) (hn : 0 < n ∨ ∃ g, (Value.slice a n c).ownBlock = some g) : ∃ g, a = some ⟨g, 0, none⟩ ∧ n ≤ c := by
  rcases h.2 with ⟨h', h0⟩ | ⟨g, cap, cur, h', _, _, hnc, _⟩
  · simp only [Value.slice.injEq] at h'
    rcases hn with hn | ⟨g, hg⟩
    · omega
    · rw [h'.1] at hg; simp [Value.ownBlock] at hg
  · simp only [Value.slice.injEq, true_and] at h'
    exact ⟨g, h'.1, by rw [h'.2]; exact hnc⟩
theorem GE.addr {B T : Nat} {w : World} {a : Option Addr} {n c : Nat} {es : List En} (h : GE B T w (.slice a n c) es) (hn : n = es.length) (ho : 0 < n ∨ ∃ g, (Value.slice a n c).ownBlock = some g) : ∃ g, a = some ⟨g, 0, none⟩ ∧ n ≤ c := by
  subst hn
  obtain ⟨rs, _, h1, _⟩ := h
  exact row_addr h1 ho
theorem GE.made (w : World) : GE w.heap.size (w.alloc (.cells #[] 36)).heap.size (w.alloc (.cells #[] 36)) (.slice (some ⟨w.heap.size, 0, none⟩) 0 0) [] :=
  ⟨[], rfl, World.ownsRow_made w #[] 0 (Nat.le_refl _) (Nat.zero_le _) rfl, fun r hr => by simp at hr, List.Pairwise.nil, fun r hr => by simp at hr, fun x hx => by simp [Value.ownBlock] at hx; subst hx; simp⟩
theorem GE.shape {B T : Nat} {w : World} {v : Value} {es : List En} (h : GE B T w v es) : ∃ a c, v = .slice a es.length c := h.se.shape
theorem take_len {α : Type} {es : List α} {k : Nat} (h : k ≤ es.length) : (es.take k).length = k := by rw [List.length_take]; omega

/-- What one round of the copy leaves. -/
theorem copy_step {wr w1 : World} {e : En} {x av : Option Addr} {cc cv : Nat} (hown : w1.ownsRow (wr.heap.size + 1) 2 1 (.slice av e.chunks.length cv) e.chunks.length (e.chunks.map (Value.int .i64)))
    (hk : Kept (fun b => b = wr.heap.size + 1) ((wr.alloc (.cells #[.string (str e.path), .int .i64 e.kind, .int .i64 e.size, .slice x e.chunks.length cc] 36)).alloc (.cells #[] 2)) w1) :
    (w1.cell? ⟨wr.heap.size, 0, none⟩ = some (.string (str e.path)) ∧ w1.cell? ⟨wr.heap.size, 1, none⟩ = some (.int .i64 e.kind) ∧ w1.cell? ⟨wr.heap.size, 2, none⟩ = some (.int .i64 e.size) ∧ w1.cell? ⟨wr.heap.size, 3, none⟩ = some (.slice x e.chunks.length cc) ∧ w1.frozen? ⟨wr.heap.size, 3, none⟩ = false) ∧
    Below wr.heap.size wr (w1.setCell ⟨wr.heap.size, 3, none⟩ (.slice av e.chunks.length cv)) ∧
    (w1.setCell ⟨wr.heap.size, 3, none⟩ (.slice av e.chunks.length cv)).ownsRow wr.heap.size 2 1 (.slice av e.chunks.length cv) e.chunks.length (e.chunks.map (Value.int .i64)) := by
  have hF := (Four.new wr (.string (str e.path)) (.int .i64 e.kind) (.int .i64 e.size) (.slice x e.chunks.length cc) 36).below (below_alloc _ (.cells #[] 2))
  have hfz : ((wr.alloc (.cells #[.string (str e.path), .int .i64 e.kind, .int .i64 e.size, .slice x e.chunks.length cc] 36)).alloc (.cells #[] 2)).frozen? ⟨wr.heap.size, 3, none⟩ = false := by
    rw [(below_alloc _ (.cells #[] 2)).frozen (p := ⟨wr.heap.size, 3, none⟩) (by simp)]
    simp
  have hBB : Below wr.heap.size wr ((wr.alloc (.cells #[.string (str e.path), .int .i64 e.kind, .int .i64 e.size, .slice x e.chunks.length cc] 36)).alloc (.cells #[] 2)) := below_next (below_alloc _ _) (below_alloc _ _)
  have hlt := hF.lt
  generalize (wr.alloc (.cells #[.string (str e.path), .int .i64 e.kind, .int .i64 e.size, .slice x e.chunks.length cc] 36)).alloc (.cells #[] 2) = W at *
  obtain ⟨f0, f1, f2, f3⟩ := hF
  have hne : ¬ (wr.heap.size = wr.heap.size + 1) := by omega
  refine ⟨⟨(hk.cell (p := ⟨wr.heap.size, 0, none⟩) hlt hne).trans f0, (hk.cell (p := ⟨wr.heap.size, 1, none⟩) hlt hne).trans f1, (hk.cell (p := ⟨wr.heap.size, 2, none⟩) hlt hne).trans f2, (hk.cell (p := ⟨wr.heap.size, 3, none⟩) hlt hne).trans f3, (hk.frozen (p := ⟨wr.heap.size, 3, none⟩) hlt hne).trans hfz⟩, ?_, ?_⟩
  · exact (hBB.trans (hk.below hBB.size (fun k hk h => by omega))).setCell (p := ⟨wr.heap.size, 3, none⟩) (Nat.le_refl _) _
  · refine ownsRow_mono (base := wr.heap.size + 1) ?_ (by omega)
    exact ownsRow_kept (S := fun b => b = wr.heap.size) hown (Kept.setCell (S := fun b => b = wr.heap.size) (p := ⟨wr.heap.size, 3, none⟩) (Kept.refl _ w1) (fun _ => rfl) _) (fun b hb hS => by have := (hown.lt b hb).1; omega)


end Go.Proofs.Ytcnoabkpilmanaa
