/-
  The program's replies of a home, of what is written and of what is made; an item put among the others, in order.
-/
import Derived.Test.YtjkmbicedbdifaaGreatTreD
import Derived.Test.YtjkmbicedbdifaaGreatIteT
import Derived.Test.YtjkmbicedbdifaaGreatJ1
import Derived.Deep.RegionHeld3
namespace Go.Proofs.YtjkmbicedbdifaaGreat
open Go.RowKit Go.Maps Go.Sort
set_option linter.unusedVariables false
attribute [local go_sem ↓] Go.wp_at_zero Go.wp_at_succ

theorem path_len2 {p : Bs} (h : faultP p = 0) : p.length ≤ 15 := by
  obtain ⟨ns, hN, hpe, _, _⟩ := faultP_zero h
  have h1 := join_len ns hN.2.2.1
  have h2 := hN.2.2.2
  rw [hpe]
  omega



theorem put_order2 {rs : List Rw} {r : Rw} {e : En} {bs : List En} (h : rs.map Rw.e = bs) (he : r.e = e) : ∃ ss : List Rw, ss.Perm (rs ++ [r]) ∧ ss.map Rw.e = putAt bs e := by
  refine ⟨rs.take (lowN bs e.path) ++ r :: rs.drop (lowN bs e.path), ?_, ?_⟩
  · refine List.perm_middle.trans ?_
    rw [List.take_append_drop]
    exact (List.perm_append_singleton r rs).symm
  · rw [List.map_append, List.map_cons, List.map_take, List.map_drop, h, he]
    rfl
theorem sorted_rd2 {W0 wr w' : World} {g : Nat} {ss : List Rw} (hc : ∀ i q r, ss[i]? = some r → q < 4 → w'.cell? ⟨g, i * 4 + q, none⟩ = (cellsI r)[q]?) (hr : ∀ r ∈ ss, Reads .i64 W0 r.a r.e.chunks) (hb : Below W0.heap.size W0 wr) (hk : Kept (fun b => b = g) wr w') (hg : W0.heap.size ≤ g) (hgw : g < wr.heap.size) :
    RdI w' (some ⟨g, 0, none⟩) (ss.map Rw.e) := by
  intro _
  refine ⟨g, 0, fun i => (ss[i]?.map Rw.a).getD none, fun i => (ss[i]?.map Rw.c).getD 0, rfl, Nat.lt_of_lt_of_le hgw hk.size, fun i e hi => ?_⟩
  rw [List.getElem?_map] at hi
  cases hri : ss[i]? with
  | none => rw [hri] at hi; simp at hi
  | some r =>
    rw [hri] at hi
    simp only [Option.map_some, Option.some.injEq] at hi
    subst hi
    have c0 := hc i 0 r hri (by decide)
    have c1 := hc i 1 r hri (by decide)
    have c2 := hc i 2 r hri (by decide)
    have c3 := hc i 3 r hri (by decide)
    have hrr := hr r (List.mem_of_getElem? hri)
    simp only [hri, Option.map_some, Option.getD_some, Nat.zero_add]
    refine ⟨by simpa [cellsI] using c0, by simpa [cellsI] using c1, by simpa [cellsI] using c2, by simpa [cellsI] using c3, ?_⟩
    refine (hrr.below hb).kept hk (fun hz x hx e => ?_)
    obtain ⟨b, off, e1, hb1, _⟩ := hrr hz
    rw [e1] at hx
    cases hx
    simp only at e
    omega

theorem off_rise {es : List En} (h : Rise es) (p : Bs) : Rise (offE es p) := h.sublist List.filter_sublist
set_option maxRecDepth 100000 in
set_option maxHeartbeats 3200000 in
/-- What is left of the walk behind the append: the items in order. -/
theorem withItem_end (W : World) (bs : List En) (e : En) (x : Option Addr) (cc : Nat) (rs : List Rw) (av : Option Addr) (cv : Nat) (w1 u : World) (hrs : rs.map Rw.e = bs) (hrd : ∀ r ∈ rs, Reads .i64 w1 r.a r.e.chunks) (hx : Reads .i64 w1 x e.chunks) (hb : Below w1.heap.size w1 u) (hw : W.heap.size ≤ w1.heap.size) (hB : Below W.heap.size W u)
    (ho : u.ownsRow w1.heap.size 64 4 (.slice av (bs.length + 1) cv) (bs.length + 1) (rowI rs ++ cellsI ⟨e, x, cc⟩)) (hl : bs.length ≤ 1048576) (hr : Rise bs) (hn : ∀ y ∈ bs, y.path ≠ e.path) :
    ∃ g, av = some ⟨g, 0, none⟩ ∧ Calls Tryz.prog 164 #[.slice (some ⟨g, 0, none⟩) (bs.length + 1) cv, .func (.func 65) #[] #[]] u fun r w' => r = .returned (.tuple #[]) ∧ RdI w' (some ⟨g, 0, none⟩) (putAt bs e) ∧ Below W.heap.size W w' := by
  obtain ⟨g, hgv, -⟩ := row_addr ho (.inl (by omega))
  subst hgv
  obtain ⟨ss, hperm, hmap⟩ := put_order2 (r := ⟨e, x, cc⟩) hrs rfl
  have hrise : ss.Pairwise (fun x y => Op.bytesLess x.e.path y.e.path = true) := by
    have := rise_putAt (e := e) hr hn
    rw [← hmap] at this
    exact List.pairwise_map.1 this
  have ho2 : u.ownsRow w1.heap.size 64 4 (.slice (some ⟨g, 0, none⟩) (bs.length + 1) cv) (bs.length + 1) (rowI (rs ++ [⟨e, x, cc⟩])) := by rw [rowI_append]; simpa [rowI] using ho
  have hlen : bs.length + 1 = (rs ++ [(⟨e, x, cc⟩ : Rw)]).length := by rw [List.length_append, ← hrs, List.length_map]; rfl
  have hgl := ho.lt g rfl
  refine ⟨g, rfl, (sortList_any w1.heap.size g (bs.length + 1) cv (rs ++ [⟨e, x, cc⟩]) ss u ho2 hlen (by omega) hperm hrise).mono ?_⟩
  rintro r w' ⟨rfl, hc, hk⟩
  refine ⟨rfl, ?_, hB.trans (hk.below hB.size (fun q hq hS => by have : q = g := hS; omega))⟩
  rw [← hmap]
  refine sorted_rd2 hc (fun r hr => ?_) hb hk hgl.1 hgl.2
  rcases List.mem_append.1 (hperm.subset hr) with hr | hr
  · exact hrd r hr
  · simp only [List.mem_singleton] at hr
    subst hr
    exact hx
end Go.Proofs.YtjkmbicedbdifaaGreat
