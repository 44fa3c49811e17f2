/-
  The model's Put.
-/
import Derived.Test.YtcnoabkpilmanaaEntW
namespace Go.Proofs.Ytcnoabkpilmanaa
open Go.RowKit Go.Maps
set_option linter.unusedVariables false
attribute [local go_sem ↓] Go.wp_at_zero Go.wp_at_succ

/-- Does an entry stay where another is put? -/
def keepE (e x : En) : Bool := !(decide (x.path = e.path)) && (dirK e.kind || !(belowB x.path e.path))
def baseE (es : List En) (e : En) : List En := es.filter (keepE e)
theorem baseE_in {es : List En} {e x : En} {k : Nat} (he : es[k]? = some x) (h : keepE e x = true) : baseE (es.take (k + 1)) e = baseE (es.take k) e ++ [x] := by
  rw [take_snoc_at he]; simp [baseE, h]
theorem baseE_out {es : List En} {e x : En} {k : Nat} (he : es[k]? = some x) (h : keepE e x = false) : baseE (es.take (k + 1)) e = baseE (es.take k) e := by
  rw [take_snoc_at he]; simp [baseE, h]
theorem baseE_len (es : List En) (e : En) : (baseE es e).length ≤ es.length := List.length_filter_le _ _
theorem baseE_small {es : List En} (h : SmallE es) (e : En) : SmallE (baseE es e) := fun x hx => h x (List.mem_filter.1 hx).1
/-- How many of a list's first paths lie under a path. -/
def lowN (es : List En) (p : Bs) : Nat := (es.takeWhile fun x => Op.bytesLess x.path p).length
def putAt (rs : List En) (e : En) : List En := rs.take (lowN rs e.path) ++ e :: rs.drop (lowN rs e.path)
/-- A layer with an entry put into it. -/
def putE (es : List En) (e : En) : List En := putAt (baseE es e) e

theorem lowN_at {bs : List En} {p : Bs} {k : Nat} (hk : k ≤ bs.length) (h1 : (bs.take k).all (fun x => Op.bytesLess x.path p) = true) (h2 : ∀ y, bs[k]? = some y → Op.bytesLess y.path p = false) : lowN bs p = k := by
  have e : bs = bs.take k ++ bs.drop k := (List.take_append_drop k bs).symm
  have hd : (bs.drop k).takeWhile (fun x => Op.bytesLess x.path p) = [] := by
    cases hx : bs.drop k with
    | nil => rfl
    | cons y r =>
      have : bs[k]? = some y := by
        have h3 := congrArg (fun l => l[0]?) hx
        simpa using h3
      simp [h2 y this]
  unfold lowN
  conv => lhs; rw [e]
  rw [List.takeWhile_append_of_pos (by intro x hx; exact List.all_eq_true.1 h1 x hx), hd, List.append_nil, List.length_take]
  omega
/-- append(out, x...): out owned, x a row that is known. -/
theorem wpList_append_list {P : Program} {w : World} {ops : Array Oper} {rest : List Oper} {o : Oper} {a : Act} {Q : Exit → Act → World → Prop} (hgd : o.guard = none) (s x : Operand) (t : TypeId)
    (ho : o.op = .call { callee := .builtin .append, args := #[s, x], argTypes := #[t, t] })
    (base : Nat) (e : TypeId) (i : TypeInfo) (z : Value) (size bytes : Nat) (ht : P.underlying t = some (.slice e)) (hi : P.info? e = some i) (hz : i.zero = some z)
    (hsize : i.size = size) (hby : i.bytes = bytes) (hzs : z.cells.size = size) (hsz : 0 < size)
    (v : Value) (n : Nat) (xs : List Value) (hs : a.eval s = v) (hown : w.ownsRow base e size v n xs)
    (ad : Addr) (m c : Nat) (news : List Value) (hx : a.eval x = .slice (some ad) m c) (hl : news.length = m * size) (hnews : ∀ j u, news[j]? = some u → w.cell? (ad.add j) = some u) (h1 : ∀ u ∈ news, u.oneCell' = true)
    (N : Nat) (hN : n + m = N) (h63 : n + m ≤ maxLen) (hbytes : (n + m) * bytes ≤ 140737488355328) (hbase : base ≤ w.heap.size)
    (h : ∀ av cv w', w'.ownsRow base e size (.slice av N cv) N (xs ++ news) → Kept (fun b => v.ownBlock = some b) w w' → wpList P ops Q rest (a.put o.dst (.slice av N cv)) w') :
    wpList P ops Q (o :: rest) a w := by
  refine wpList_append_own w hgd s x t ho base e i z size bytes ht hi hz hsize hby hzs hsz v n xs hs hown ad m c news hx hl hnews h1 h63 hbytes hbase fun v' w' h2 h3 _ => ?_
  rw [hN] at h2
  obtain ⟨av, cv, rfl⟩ := ownsRow_shape h2
  exact h av cv w' h2 ⟨h3.os, h3.tape, h3.output, h3.size, fun q hq hn => h3.block q hq (fun e => hn e.symm)⟩
/-- append at a step of a region that draws its order. -/
theorem step_append_list {P : Program} {w : World} {ops : Array Oper} {o : Oper} {a : Act} {K : Act → World → Prop} {Q : Exit → Act → World → Prop} {E : Prop} (hgd : o.guard = none) (s x : Operand) (t : TypeId)
    (ho : o.op = .call { callee := .builtin .append, args := #[s, x], argTypes := #[t, t] })
    (base : Nat) (e : TypeId) (i : TypeInfo) (z : Value) (size bytes : Nat) (ht : P.underlying t = some (.slice e)) (hi : P.info? e = some i) (hz : i.zero = some z)
    (hsize : i.size = size) (hby : i.bytes = bytes) (hzs : z.cells.size = size) (hsz : 0 < size)
    (v : Value) (n : Nat) (xs : List Value) (hs : a.eval s = v) (hown : w.ownsRow base e size v n xs)
    (ad : Addr) (m c : Nat) (news : List Value) (hx : a.eval x = .slice (some ad) m c) (hl : news.length = m * size) (hnews : ∀ j u, news[j]? = some u → w.cell? (ad.add j) = some u) (h1 : ∀ u ∈ news, u.oneCell' = true)
    (N : Nat) (hN : n + m = N) (h63 : n + m ≤ maxLen) (hbytes : (n + m) * bytes ≤ 140737488355328) (hbase : base ≤ w.heap.size)
    (h : ∀ av cv w', w'.ownsRow base e size (.slice av N cv) N (xs ++ news) → Kept (fun b => v.ownBlock = some b) w w' → K (a.put o.dst (.slice av N cv)) w') :
    if Region.wanted o (yielded ops a.tmps) = true then Oper.wp P o a w K Q else E := by
  have hw : Region.wanted o (yielded ops a.tmps) = true := by simp [Region.wanted, hgd]
  rw [if_pos hw]
  refine wp_append_own w s x t ho base e i z size bytes ht hi hz hsize hby hzs hsz v n xs hs hown ad m c news hx hl hnews h1 h63 hbytes hbase fun v' w' h2 h3 _ => ?_
  rw [hN] at h2
  obtain ⟨av, cv, rfl⟩ := ownsRow_shape h2
  exact h av cv w' h2 ⟨h3.os, h3.tape, h3.output, h3.size, fun q hq hn => h3.block q hq (fun e => hn e.symm)⟩
theorem add_addr (b o j : Nat) : (⟨b, o, none⟩ : Addr).add j = ⟨b, o + j, none⟩ := by unfold Addr.add; split <;> simp_all
/-- The cells of a row's entries from place k on. -/
theorem row_news {w w' : World} {B g n c k : Nat} {rs : List Rw} (h : w.ownsRow B 36 4 (.slice (some ⟨g, 0, none⟩) n c) n (rowR rs)) (hb : Below w.heap.size w w') (l : List Value) (hl : ∀ j u, l[j]? = some u → (rowR rs)[k * 4 + j]? = some u) : ∀ j u, l[j]? = some u → w'.cell? ((⟨g, k * 4, none⟩ : Addr).add j) = some u := by
  intro j u hj
  rw [add_addr]
  have h1 := hl j u hj
  have hlt : k * 4 + j < (rowR rs).length := (List.getElem?_eq_some_iff.1 h1).1
  rw [hb.cell (p := ⟨g, k * 4 + j, none⟩) (h.lt g rfl).2]
  rcases h.2 with ⟨h', _⟩ | ⟨g', cap, cur, h', hb', hh, hnc, hcm, hcs, htake⟩
  · simp at h'
  · have hlen := h.1
    rw [h.cellAt (k * 4 + j) (by rw [hlen] at hlt; exact hlt)]
    exact h1
theorem put_rows {w0 w5 : World} {B : Nat} {rs : List Rw} {bs : List En} {e : En} {x : Option Addr} {cc k n : Nat} {v : Value} (g1 : rs.map Rw.e = bs) (hk : k ≤ bs.length) (hn : n = bs.length + 1)
    (g3 : ∀ r ∈ rs, Reads .i64 w0 r.a r.e.chunks) (hx : Reads .i64 w0 x e.chunks) (hb : Below w0.heap.size w0 w5)
    (ho : w5.ownsRow B 36 4 v n ((([] ++ rowR (rs.take k)) ++ cellsR ⟨e, x, cc⟩) ++ rowR (rs.drop k))) : SE B w5 v (bs.take k ++ e :: bs.drop k) := by
  subst hn
  refine ⟨rs.take k ++ ⟨e, x, cc⟩ :: rs.drop k, ?_, ?_, fun r hr => ?_⟩
  · rw [List.map_append, List.map_cons, List.map_take, List.map_drop, g1]
  · have e1 : (bs.take k ++ e :: bs.drop k).length = bs.length + 1 := by simp; omega
    rw [e1]
    have e2 : rowR (rs.take k ++ ⟨e, x, cc⟩ :: rs.drop k) = (([] ++ rowR (rs.take k)) ++ cellsR ⟨e, x, cc⟩) ++ rowR (rs.drop k) := by
      rw [rowR_append]; simp [rowR]
    rw [e2]
    exact ho
  · rcases List.mem_append.1 hr with hr | hr
    · exact (g3 r (List.mem_of_mem_take hr)).below hb
    · rcases List.mem_cons.1 hr with rfl | hr
      · exact hx.below hb
      · exact (g3 r (List.mem_of_mem_drop hr)).below hb
theorem news_four {w : World} {H : Nat} {u0 u1 u2 u3 : Value} {t : TypeId} (hH : w.heap.size = H) : ∀ j x, [u0, u1, u2, u3][j]? = some x → (w.alloc (.cells #[u0, u1, u2, u3] t)).cell? ((⟨H, 0, none⟩ : Addr).add j) = some x := by
  subst hH
  intro j x hj
  rw [add_addr, Nat.zero_add, cell_of_row _ w.heap.size j #[u0, u1, u2, u3] t (0, 0) (heap_alloc_new w _)]
  simpa using hj
theorem LE.drewN {w0 w : World} {v : Value} {es : List En} (h : LE w0 w v es) (n : Nat) : LE w0 (w.drewN n) v es := by
  obtain ⟨rs, he, h1, h2⟩ := h
  exact ⟨rs, he, ownsRow_below h1 (below_drewN (Below.refl _ _) n), h2⟩


end Go.Proofs.Ytcnoabkpilmanaa
