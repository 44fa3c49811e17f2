/-
  The model's copy of a layer.
-/
import Derived.Test.YtcknabinmbknaaaGreatDoorEntG
namespace Go.Proofs.YtcknabinmbknaaaGreatDoor
open Go.RowKit Go.Maps
set_option linter.unusedVariables false
attribute [local go_sem ↓] Go.wp_at_zero Go.wp_at_succ

/-- append(out, x...): out owned and made, x read, whether it has memory or not. -/
theorem wpList_append_take {P : Program} {wr : World} {ops : Array Oper} {rest : List Oper} {o : Oper} {a : Act} {Q : Exit → Act → World → Prop} (hgd : o.guard = none) (s x : Operand) (t : TypeId)
    (ho : o.op = .call { callee := .builtin .append, args := #[s, x], argTypes := #[t, t] })
    (base : Nat) (e : TypeId) (i : TypeInfo) (k : IntKind) (bytes : Nat) (hu : P.underlying t = some (.slice e)) (hi : P.info? e = some i) (hz : i.zero = some (.int k 0))
    (hsize : i.size = 1) (hby : i.bytes = bytes) (g c n : Nat) (ys : List Int) (hs : a.eval s = .slice (some ⟨g, 0, none⟩) n c) (hown : wr.ownsRow base e 1 (.slice (some ⟨g, 0, none⟩) n c) n (ys.map (Value.int k)))
    (xa : Option Addr) (m cap : Nat) (zs : List Int) (hx : a.eval x = .slice xa m cap) (hm : m = zs.length) (hr : Reads k wr xa zs)
    (N : Nat) (hN : n + m = N) (h63 : n + m ≤ maxLen) (hbytes : (n + m) * bytes ≤ 140737488355328) (hbase : base ≤ wr.heap.size)
    (h : ∀ av cv w', w'.ownsRow base e 1 (.slice av N cv) N ((ys ++ zs).map (Value.int k)) → Kept (fun b => b = g) wr w' → wpList P ops Q rest (a.put o.dst (.slice av N cv)) w') :
    wpList P ops Q (o :: rest) a wr := by
  subst hN
  cases xa with
  | some ad =>
    refine wpList_append_own _ hgd s x t ho base e i (.int k 0) 1 bytes hu hi hz hsize hby rfl (by decide) _ n _ hs hown ad m cap (zs.map (Value.int k)) hx (by simp [hm]) (fun j u hj => ?_) (ints_one _ _) h63 hbytes hbase ?_
    · have h0 : zs ≠ [] := fun e => by subst e; simp at hj
      obtain ⟨b, off, e1, hb, hc⟩ := hr h0
      simp only [Option.some.injEq] at e1
      subst e1
      exact reads_news hc j u hj
    · intro v' w' ho' hg _
      rw [← List.map_append] at ho'
      obtain ⟨av, cv, rfl⟩ := ownsRow_shape ho'
      exact h av cv w' ho' ⟨hg.os, hg.tape, hg.output, hg.size, fun q hq hn => hg.block q hq (fun e => hn (by simp [Value.ownBlock] at e; exact e))⟩
  | none =>
    have h0 : zs = [] := by
      by_cases h0 : zs = []
      · exact h0
      · obtain ⟨b, off, e1, _⟩ := hr h0; cases e1
    subst h0
    simp only [List.length_nil] at hm
    subst hm
    have hc : n ≤ c := ownsRow_cap hown
    have hrun : (Builtin.append_ #[t, t] o.type #[.slice (some ⟨g, 0, none⟩) n c, .slice none 0 cap]).run P wr = .ok (.slice (some ⟨g, 0, none⟩) (n + 0) c) wr := by
      simp [Builtin.append_, run_underlying hu, sizeOf, typeInfo, hi, Builtin.lenOf, Builtin.firstCells, storeCells, hc]
    refine wpList_plain hgd fun K hK => ?_
    unfold Oper.wp execOp
    simp only [ho, resolve, invoke, builtin, Sem.run_bind, Sem.run_pure, Result.andThen_ok, List.map_toArray, List.map_cons, List.map_nil, hs, hx, hrun]
    exact hK _ _ (h _ _ wr (by simpa using hown) (Kept.refl _ _))

/-- append(out, x) behind a walk that wrote the new block's number its own way. -/
theorem wpList_append_put {P : Program} {wr : World} {news : Array Value} {ops : Array Oper} {rest : List Oper} {o : Oper} {a : Act} {Q : Exit → Act → World → Prop} (hgd : o.guard = none) (s x : Operand) (t : TypeId)
    (ho : o.op = .call { callee := .builtin .append, args := #[s, x], argTypes := #[t, t] })
    (base : Nat) (e : TypeId) (i : TypeInfo) (z : Value) (size bytes : Nat) (ht : P.underlying t = some (.slice e)) (hi : P.info? e = some i) (hz : i.zero = some z)
    (hsize : i.size = size) (hby : i.bytes = bytes) (hzs : z.cells.size = size) (hsz : 0 < size)
    (v : Value) (n : Nat) (xs : List Value) (hs : a.eval s = v) (hown : wr.ownsRow base e size v n xs)
    (H : Nat) (hH : wr.heap.size = H) (hx : a.eval x = .slice (some ⟨H, 0, none⟩) 1 1) (hl : news.size = size) (h1 : ∀ u ∈ news.toList, u.oneCell' = true)
    (h63 : n + 1 ≤ maxLen) (hbytes : (n + 1) * bytes ≤ 140737488355328) (hbase : base ≤ wr.heap.size)
    (h : ∀ av cv w', w'.ownsRow base e size (.slice av (n + 1) cv) (n + 1) (xs ++ news.toList) → Kept (fun b => v.ownBlock = some b) wr w' → wpList P ops Q rest (a.put o.dst (.slice av (n + 1) cv)) w') :
    wpList P ops Q (o :: rest) a (wr.alloc (.cells news e)) := by
  subst hH
  refine wpList_append_one hgd s x t ho base e i z size bytes ht hi hz hsize hby hzs hsz v n xs hs hown hx hl h1 h63 hbytes hbase fun v' w' h2 h3 => ?_
  obtain ⟨av, cv, rfl⟩ := ownsRow_shape h2
  exact h av cv w' h2 h3

theorem row_addr {w : World} {B : Nat} {e : TypeId} {size n : Nat} {a : Option Addr} {c : Nat} {xs : List Value} (h : w.ownsRow B e size (.slice a n c) n xs) (hn : 0 < n ∨ ∃ g, (Value.slice a n c).ownBlock = some g) : ∃ g, a = some ⟨g, 0, none⟩ ∧ n ≤ c := by
  rcases h.2 with ⟨h', h0⟩ | ⟨g, cap, cur, h', _, _, hnc, _⟩
  · simp only [Value.slice.injEq] at h'
    rcases hn with hn | ⟨g, hg⟩
    · omega
    · rw [h'.1] at hg; simp [Value.ownBlock] at hg
  · simp only [Value.slice.injEq, true_and] at h'
    exact ⟨g, h'.1, by rw [h'.2]; exact hnc⟩
theorem GE.addr {B T : Nat} {w : World} {a : Option Addr} {n c : Nat} {es : List En} (h : GE B T w (.slice a n c) es) (hn : n = es.length) (ho : 0 < n ∨ ∃ g, (Value.slice a n c).ownBlock = some g) : ∃ g, a = some ⟨g, 0, none⟩ ∧ n ≤ c := by
  subst hn
  obtain ⟨rs, _, h1, _⟩ := h
  exact row_addr h1 ho
theorem GE.made (w : World) : GE w.heap.size (w.alloc (.cells #[] 39)).heap.size (w.alloc (.cells #[] 39)) (.slice (some ⟨w.heap.size, 0, none⟩) 0 0) [] :=
  ⟨[], rfl, World.ownsRow_made w #[] 0 (Nat.le_refl _) (Nat.zero_le _) rfl, fun r hr => by simp at hr, List.Pairwise.nil, fun r hr => by simp at hr, fun x hx => by simp [Value.ownBlock] at hx; subst hx; simp⟩
theorem GE.shape {B T : Nat} {w : World} {v : Value} {es : List En} (h : GE B T w v es) : ∃ a c, v = .slice a es.length c := h.se.shape
theorem take_len {α : Type} {es : List α} {k : Nat} (h : k ≤ es.length) : (es.take k).length = k := by rw [List.length_take]; omega

/-- What one round of the copy leaves. -/
theorem copy_step {wr w1 : World} {e : En} {x av : Option Addr} {cc cv : Nat} (hown : w1.ownsRow (wr.heap.size + 1) 2 1 (.slice av e.chunks.length cv) e.chunks.length (e.chunks.map (Value.int .i64)))
    (hk : Kept (fun b => b = wr.heap.size + 1) ((wr.alloc (.cells #[.string (str e.path), .int .i64 e.kind, .int .i64 e.size, .slice x e.chunks.length cc] 39)).alloc (.cells #[] 2)) w1) :
    (w1.cell? ⟨wr.heap.size, 0, none⟩ = some (.string (str e.path)) ∧ w1.cell? ⟨wr.heap.size, 1, none⟩ = some (.int .i64 e.kind) ∧ w1.cell? ⟨wr.heap.size, 2, none⟩ = some (.int .i64 e.size) ∧ w1.cell? ⟨wr.heap.size, 3, none⟩ = some (.slice x e.chunks.length cc) ∧ w1.frozen? ⟨wr.heap.size, 3, none⟩ = false) ∧
    Below wr.heap.size wr (w1.setCell ⟨wr.heap.size, 3, none⟩ (.slice av e.chunks.length cv)) ∧
    (w1.setCell ⟨wr.heap.size, 3, none⟩ (.slice av e.chunks.length cv)).ownsRow wr.heap.size 2 1 (.slice av e.chunks.length cv) e.chunks.length (e.chunks.map (Value.int .i64)) := by
  have hF := (Four.new wr (.string (str e.path)) (.int .i64 e.kind) (.int .i64 e.size) (.slice x e.chunks.length cc) 39).below (below_alloc _ (.cells #[] 2))
  have hfz : ((wr.alloc (.cells #[.string (str e.path), .int .i64 e.kind, .int .i64 e.size, .slice x e.chunks.length cc] 39)).alloc (.cells #[] 2)).frozen? ⟨wr.heap.size, 3, none⟩ = false := by
    rw [(below_alloc _ (.cells #[] 2)).frozen (p := ⟨wr.heap.size, 3, none⟩) (by simp)]
    simp
  have hBB : Below wr.heap.size wr ((wr.alloc (.cells #[.string (str e.path), .int .i64 e.kind, .int .i64 e.size, .slice x e.chunks.length cc] 39)).alloc (.cells #[] 2)) := below_next (below_alloc _ _) (below_alloc _ _)
  have hlt := hF.lt
  generalize (wr.alloc (.cells #[.string (str e.path), .int .i64 e.kind, .int .i64 e.size, .slice x e.chunks.length cc] 39)).alloc (.cells #[] 2) = W at *
  obtain ⟨f0, f1, f2, f3⟩ := hF
  have hne : ¬ (wr.heap.size = wr.heap.size + 1) := by omega
  refine ⟨⟨(hk.cell (p := ⟨wr.heap.size, 0, none⟩) hlt hne).trans f0, (hk.cell (p := ⟨wr.heap.size, 1, none⟩) hlt hne).trans f1, (hk.cell (p := ⟨wr.heap.size, 2, none⟩) hlt hne).trans f2, (hk.cell (p := ⟨wr.heap.size, 3, none⟩) hlt hne).trans f3, (hk.frozen (p := ⟨wr.heap.size, 3, none⟩) hlt hne).trans hfz⟩, ?_, ?_⟩
  · exact (hBB.trans (hk.below hBB.size (fun k hk h => by omega))).setCell (p := ⟨wr.heap.size, 3, none⟩) (Nat.le_refl _) _
  · refine ownsRow_mono (base := wr.heap.size + 1) ?_ (by omega)
    exact ownsRow_kept (S := fun b => b = wr.heap.size) hown (Kept.setCell (S := fun b => b = wr.heap.size) (p := ⟨wr.heap.size, 3, none⟩) (Kept.refl _ w1) (fun _ => rfl) _) (fun b hb hS => by have := (hown.lt b hb).1; omega)

set_option maxRecDepth 100000 in
set_option maxHeartbeats 3200000 in
theorem l4Copy_any (a : Option Addr) (c n : Nat) (es : List En) (w : World) (h : RdE w a es) (hn : n = es.length) (hl : es.length ≤ 1048576) (hs : SmallE es) :
    Calls Tryz.prog 94 #[.slice a n c] w fun r w' => ∃ g cv, r = .returned (.slice (some ⟨g, 0, none⟩) n cv) ∧ n ≤ cv ∧ GE w.heap.size w'.heap.size w' (.slice (some ⟨g, 0, none⟩) n cv) es ∧ Below w.heap.size w w' := by
  subst hn
  obtain ⟨i1, ki, kz0, kz1, kz2⟩ := info_parts Tryz.infoEn
  obtain ⟨i0, hi0, hz0, hz1, hz2⟩ := info_parts Tryz.infoI64
  have HA := hide h
  have HS := hide hs
  clear h hs
  go_enter Tryz.func94, Tryz.ntmps94
  go_wp2_with fail
  go_loopw [3, 4] (fun v i wr => ∃ j : Nat, j ≤ es.length ∧ i = .int .i64 j ∧ Hid (GE w.heap.size wr.heap.size wr v (es.take j)) ∧ Hid (∃ g, v.ownBlock = some g) ∧ Hid (Below w.heap.size w wr)) (fun _ i _ => es.length - (intOf i).toNat)
  case atStart => exact ⟨0, Nat.zero_le _, rfl, hide (GE.made w), hide ⟨_, rfl⟩, hide (below_alloc _ _)⟩
  case round =>
    obtain ⟨j, hj, rfl, HG, HOb, HW⟩ := hrel
    obtain ⟨lv, lc, hv⟩ := HG.out.shape
    rw [take_len hj] at hv
    subst hv
    have HA1 := hide (HA.out.below HW.out)
    have hsz := HW.out.size
    by_cases hlt : j < es.length
    · obtain ⟨b, off, e, x, cc, rfl, hb, he, c0, c1, c2, c3, hr⟩ := HA1.out.at hlt
      have HX := hide he
      have HRc := hide hr
      have hsm := HS.out e (List.mem_of_getElem? he)
      clear he hr
      obtain ⟨rs, g1, g2, g3, g4, g5, g6⟩ := HG.out
      have G1 := hide g1
      have G2 := hide g2
      have G3 := hide g3
      have G4 := hide g4
      clear g1 g2 g3 g4 g5 g6 HG
      have hj1 : (es.take j).length = j := take_len hj
      have OWN0 : Hid (((wr.alloc (.cells #[.string (str e.path), .int .i64 e.kind, .int .i64 e.size, .slice x e.chunks.length cc] 39)).alloc (.cells #[] 2)).ownsRow (wr.heap.size + 1) 2 1 (.slice (some ⟨wr.heap.size + 1, 0, none⟩) 0 0) 0 (([] : List Int).map (Value.int .i64))) := hide (by
        have := World.ownsRow_made (base := wr.heap.size + 1) (e := 2) (size := 1) (wr.alloc (.cells #[.string (str e.path), .int .i64 e.kind, .int .i64 e.size, .slice x e.chunks.length cc] 39)) #[] 0 (by simp) (Nat.zero_le _) rfl
        simpa using this)
      have RD0 : Hid (Reads .i64 ((wr.alloc (.cells #[.string (str e.path), .int .i64 e.kind, .int .i64 e.size, .slice x e.chunks.length cc] 39)).alloc (.cells #[] 2)) x e.chunks) := HRc.out.below (below_next (below_alloc _ _) (below_alloc _ _))
      have hm0 : 0 + e.chunks.length ≤ maxLen := by unfold maxLen; omega
      have hm0' : (0 + e.chunks.length) * 8 ≤ 140737488355328 := by omega
      have hm1 : j + 1 ≤ maxLen := by unfold maxLen; omega
      have hm1' : (j + 1) * 56 ≤ 140737488355328 := by omega
      have G2' : Hid (wr.ownsRow w.heap.size 39 4 (.slice lv j lc) j (rowR rs)) := by have := G2.out; rw [hj1] at this; exact this
      have HJ := hide hj1
      clear hj1
      go_wp2_with (first
        | (at_builtin; refine wpList_append_take rfl (.tmp 17) (.tmp 19) 37 rfl (wr.heap.size + 1) 2 i0 .i64 8 Tryz.underlying37 hi0 hz0 hz1 hz2 (wr.heap.size + 1) 0 0 [] rfl OWN0.out x e.chunks.length cc e.chunks rfl rfl RD0.out e.chunks.length (by simp) hm0 hm0' (by simp) ?_; intro av cv w1 hown1 hk1; obtain ⟨⟨f0, f1, f2, f3, f4⟩, hB1, hO1⟩ := copy_step hown1 hk1; have B1 := hide hB1; have O1 := hide hO1; have O2 := hide (ownsRow_below G2'.out hB1); have hs1 := hB1.size; have hH1 : (w1.setCell ⟨wr.heap.size, 3, none⟩ (.slice av e.chunks.length cv)).heap.size = w1.heap.size := (by simp [World.setCell]); clear hown1 hk1 hB1 hO1)
        | (at_builtin; refine wpList_append_put rfl (.tmp 22) (.tmp 24) 25 rfl w.heap.size 39 i1 (.agg #[.string ⟨#[]⟩, .int .i64 0, .int .i64 0, .slice none 0 0]) 4 56 Tryz.underlying25 ki kz0 kz1 kz2 rfl (by decide) _ _ _ rfl O2.out _ hH1 rfl rfl (by intro u hu; simp at hu; rcases hu with rfl | rfl | rfl | rfl <;> rfl) hm1 hm1' (by omega) ?_; intro av3 cv3 w3 hown2 hkept; have O3 := hide hown2; have K3 := hide hkept; clear hown2 hkept))
      go_roundw
      case rel =>
        refine ⟨j + 1, by omega, by go_num, hide ?_, hide ?_, hide ?_⟩
        · rw [take_snoc_at HX.out]
          exact GE.push G1.out G2.out G3.out G4.out hsz B1.out O1.out (by rw [HJ.out]; exact O3.out) K3.out
        · obtain ⟨g5, h5, _⟩ := row_addr O3.out (.inl (by omega))
          exact ⟨g5, by rw [h5]; rfl⟩
        · exact (below_next HW.out B1.out).trans (K3.out.below (by omega) (fun k hk hx => by have := (G2'.out.lt k hx).1; omega))
      case measure => simp [intOf]; omega
    · have hje : j = es.length := by omega
      have HE := hide (show es.take j = es from List.take_of_length_le (by omega))
      obtain ⟨g5, h5, h6⟩ := HG.out.addr (take_len hj).symm (.inr HOb.out)
      subst h5
      have HG2 : Hid (GE w.heap.size wr.heap.size wr (.slice (some ⟨g5, 0, none⟩) j lc) es) := by have := HG.out; rw [HE.out] at this; exact this
      clear HG HE
      subst hje
      go_wp2_with fail
      go_ret
      exact ⟨_, _, rfl, h6, HG2.out, HW.out⟩

end Go.Proofs.YtcknabinmbknaaaGreatDoor
