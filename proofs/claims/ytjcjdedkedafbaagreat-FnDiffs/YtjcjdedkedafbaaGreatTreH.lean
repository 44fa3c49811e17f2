/-
  The program's replies of a home, of what is written and of what is made; an item put among the others, in order.
-/
import Derived.Test.YtjcjdedkedafbaaGreatTreD
import Derived.Test.YtjcjdedkedafbaaGreatIteT
import Derived.Test.YtjcjdedkedafbaaGreatAppL
import Derived.Deep.RegionHeld3
namespace Go.Proofs.YtjcjdedkedafbaaGreat
open Go.RowKit Go.Maps Go.Sort
set_option linter.unusedVariables false
attribute [local go_sem ↓] Go.wp_at_zero Go.wp_at_succ

theorem path_len2 {p : Bs} (h : faultP p = 0) : p.length ≤ 15 := by
  obtain ⟨ns, hN, hpe, _, _⟩ := faultP_zero h
  have h1 := join_len ns hN.2.2.1
  have h2 := hN.2.2.2
  rw [hpe]
  omega
set_option maxRecDepth 100000 in
set_option maxHeartbeats 1600000 in
theorem homeReply_any (a : Option Addr) (c n : Nat) (es : List En) (p : Bs) (w : World) (h : RdI w a es) (hn : n = es.length) (hR : RightT es) (hp : faultP p = 0) :
    Calls Tryz.prog 86 #[.slice a n c, .string (str p)] w fun r w' => r = .returned (.int .i64 (homeC es p)) ∧ Below w.heap.size w w' := by
  subst hn
  have HR := hide h
  have HRT := hide hR
  have HS := hide hR.small
  have hl : es.length ≤ 1048576 := by have := hR.len; omega
  have hpl := path_len2 hp
  have hPC := parC_right hp
  have hPT := parT_right hp
  clear h hR hp
  go_enter Tryz.func86, Tryz.ntmps86
  go_wp2_with fail
  refine (implParentOf_any (str p) _ (by rw [str_size]; omega)).mono ?_
  rw [str_data, hPC, hPT]
  rintro r w1 ⟨rfl, hb1⟩
  by_cases h0 : parentP p = []
  · have HC := hide (homeC_top (es := es) h0)
    rw [if_pos h0]
    have B1 := hide (below_next hb1 (below_alloc w1 (.cells #[.int .i64 4, .string (str (parentP p))] 118)))
    clear hb1 h0
    go_wp2_with fail
    go_ret
    exact ⟨ret_int HC.out.symm, B1.out⟩
  · rw [if_neg h0]
    have H0 := hide h0
    have B1 := hide (below_next hb1 (below_alloc w1 (.cells #[.int .i64 0, .string (str (parentP p))] 118)))
    have X1 := hide (Box.new w1 (.int .i64 0) (.string (str (parentP p))) 118)
    clear hb1 h0
    go_wp2_with fail
    generalize w1.alloc (.cells #[.int .i64 0, .string (str (parentP p))] 118) = W1 at *
    refine (isAt_any (parentP p) _).mono ?_
    rintro r w2 ⟨rfl, hb2, hA⟩
    have HA := hide hA
    have B2 := hide (below_next B1.out hb2)
    clear hA hb2
    go_wp2_with fail
    refine (first_any a c es.length es _ _ _ _ (HR.out.below B2.out) rfl hl HS.out HA.out).mono ?_
    rintro r w3 ⟨hfi, hb3⟩
    have B3 := hide (below_next B2.out hb3)
    clear hb3
    rcases hfi with ⟨e, x, cc, hq, rfl, -⟩ | ⟨hq, rfl⟩
    · have hfe : findE es (parentP p) = some e := hq
      have hem := (find_mem hfe).1
      have hdk := HRT.out.dir hem
      have hkk := HRT.out.kinds hem
      have HC := hide (show homeC es p = if e.kind = 1 then 9 else 0 from by simp [homeC, H0.out, hfe])
      have BA := hide (below_alloc w3 (.cells #[.int .i64 e.size, .slice x e.chunks.length cc, .string (str e.path), .int .i64 e.kind] 61))
      clear hq hfe hem
      go_wp2_with fail
      refine (isDir_any (str e.path) e.kind e.size x e.chunks.length cc _).mono ?_
      rw [hdk]
      rintro r w4 ⟨rfl, hb4⟩
      have B4 := hide (below_next (below_next B3.out BA.out) hb4)
      clear hb4
      rcases hkk with hk | hk
      · have HZ := hide (show homeC es p = 9 from by rw [HC.out, if_pos hk])
        rw [decide_eq_false (by rw [hk]; decide)]
        clear hk hdk HC
        go_wp2_with fail
        go_ret
        exact ⟨ret_int HZ.out.symm, B4.out⟩
      · have HZ := hide (show homeC es p = 0 from by rw [HC.out, if_neg (by rw [hk]; decide)])
        rw [decide_eq_true hk]
        clear hk hdk HC
        go_wp2_with fail
        go_ret
        exact ⟨ret_int HZ.out.symm, B4.out⟩
    · have HC := hide (homeC_none H0.out (show findE es (parentP p) = none from hq))
      have B4 := hide (below_next B3.out (below_alloc w3 (.cells #[.int .i64 0, .slice none 0 0, .string ⟨#[]⟩, .int .i64 0] 61)))
      clear hq
      go_wp2_with fail
      go_ret
      exact ⟨ret_int HC.out.symm, B4.out⟩



theorem put_order2 {rs : List Rw} {r : Rw} {e : En} {bs : List En} (h : rs.map Rw.e = bs) (he : r.e = e) : ∃ ss : List Rw, ss.Perm (rs ++ [r]) ∧ ss.map Rw.e = putAt bs e := by
  refine ⟨rs.take (lowN bs e.path) ++ r :: rs.drop (lowN bs e.path), ?_, ?_⟩
  · refine List.perm_middle.trans ?_
    rw [List.take_append_drop]
    exact (List.perm_append_singleton r rs).symm
  · rw [List.map_append, List.map_cons, List.map_take, List.map_drop, h, he]
    rfl
theorem sorted_rd2 {W0 wr w' : World} {g : Nat} {ss : List Rw} (hc : ∀ i q r, ss[i]? = some r → q < 4 → w'.cell? ⟨g, i * 4 + q, none⟩ = (cellsI r)[q]?) (hr : ∀ r ∈ ss, Reads .i64 W0 r.a r.e.chunks) (hb : Below W0.heap.size W0 wr) (hk : Kept (fun b => b = g) wr w') (hg : W0.heap.size ≤ g) (hgw : g < wr.heap.size) :
    RdI w' (some ⟨g, 0, none⟩) (ss.map Rw.e) := by
  intro _
  refine ⟨g, 0, fun i => (ss[i]?.map Rw.a).getD none, fun i => (ss[i]?.map Rw.c).getD 0, rfl, Nat.lt_of_lt_of_le hgw hk.size, fun i e hi => ?_⟩
  rw [List.getElem?_map] at hi
  cases hri : ss[i]? with
  | none => rw [hri] at hi; simp at hi
  | some r =>
    rw [hri] at hi
    simp only [Option.map_some, Option.some.injEq] at hi
    subst hi
    have c0 := hc i 0 r hri (by decide)
    have c1 := hc i 1 r hri (by decide)
    have c2 := hc i 2 r hri (by decide)
    have c3 := hc i 3 r hri (by decide)
    have hrr := hr r (List.mem_of_getElem? hri)
    simp only [hri, Option.map_some, Option.getD_some, Nat.zero_add]
    refine ⟨by simpa [cellsI] using c0, by simpa [cellsI] using c1, by simpa [cellsI] using c2, by simpa [cellsI] using c3, ?_⟩
    refine (hrr.below hb).kept hk (fun hz x hx e => ?_)
    obtain ⟨b, off, e1, hb1, _⟩ := hrr hz
    rw [e1] at hx
    cases hx
    simp only at e
    omega

theorem off_rise {es : List En} (h : Rise es) (p : Bs) : Rise (offE es p) := h.sublist List.filter_sublist
set_option maxRecDepth 100000 in
set_option maxHeartbeats 3200000 in
/-- What is left of the walk behind the append: the items in order. -/
theorem withItem_end (W : World) (bs : List En) (e : En) (x : Option Addr) (cc : Nat) (rs : List Rw) (av : Option Addr) (cv : Nat) (w1 u : World) (hrs : rs.map Rw.e = bs) (hrd : ∀ r ∈ rs, Reads .i64 w1 r.a r.e.chunks) (hx : Reads .i64 w1 x e.chunks) (hb : Below w1.heap.size w1 u) (hw : W.heap.size ≤ w1.heap.size) (hB : Below W.heap.size W u)
    (ho : u.ownsRow w1.heap.size 61 4 (.slice av (bs.length + 1) cv) (bs.length + 1) (rowI rs ++ cellsI ⟨e, x, cc⟩)) (hl : bs.length ≤ 1048576) (hr : Rise bs) (hn : ∀ y ∈ bs, y.path ≠ e.path) :
    ∃ g, av = some ⟨g, 0, none⟩ ∧ Calls Tryz.prog 57 #[.slice (some ⟨g, 0, none⟩) (bs.length + 1) cv, .func (.func 58) #[] #[]] u fun r w' => r = .returned (.tuple #[]) ∧ RdI w' (some ⟨g, 0, none⟩) (putAt bs e) ∧ Below W.heap.size W w' := by
  obtain ⟨g, hgv, -⟩ := row_addr ho (.inl (by omega))
  subst hgv
  obtain ⟨ss, hperm, hmap⟩ := put_order2 (r := ⟨e, x, cc⟩) hrs rfl
  have hrise : ss.Pairwise (fun x y => Op.bytesLess x.e.path y.e.path = true) := by
    have := rise_putAt (e := e) hr hn
    rw [← hmap] at this
    exact List.pairwise_map.1 this
  have ho2 : u.ownsRow w1.heap.size 61 4 (.slice (some ⟨g, 0, none⟩) (bs.length + 1) cv) (bs.length + 1) (rowI (rs ++ [⟨e, x, cc⟩])) := by rw [rowI_append]; simpa [rowI] using ho
  have hlen : bs.length + 1 = (rs ++ [(⟨e, x, cc⟩ : Rw)]).length := by rw [List.length_append, ← hrs, List.length_map]; rfl
  have hgl := ho.lt g rfl
  refine ⟨g, rfl, (sortList_any w1.heap.size g (bs.length + 1) cv (rs ++ [⟨e, x, cc⟩]) ss u ho2 hlen (by omega) hperm hrise).mono ?_⟩
  rintro r w' ⟨rfl, hc, hk⟩
  refine ⟨rfl, ?_, hB.trans (hk.below hB.size (fun q hq hS => by have : q = g := hS; omega))⟩
  rw [← hmap]
  refine sorted_rd2 hc (fun r hr => ?_) hb hk hgl.1 hgl.2
  rcases List.mem_append.1 (hperm.subset hr) with hr | hr
  · exact hrd r hr
  · simp only [List.mem_singleton] at hr
    subst hr
    exact hx
end Go.Proofs.YtjcjdedkedafbaaGreat
