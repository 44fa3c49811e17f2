/-
  The program's PackLayer, and the model's l5Pack.
-/
import Derived.Test.YtlbccbikepkfiaaGreatDoorParQ
import Derived.Test.YtlbccbikepkfiaaGreatDoorTxtM
import Derived.Test.YtlbccbikepkfiaaGreatDoorRowB
import Derived.Lib.AppendStr
import Derived.Deep.RegionLaw
namespace Go.Proofs.YtlbccbikepkfiaaGreatDoor
open Go.RowKit Go.Maps
set_option linter.unusedVariables false
set_option maxRecDepth 100000

theorem textB_nums (t : Bs) : textB (numsB t) = t := by
  unfold textB numsB
  rw [List.map_map]
  conv => rhs; rw [← List.map_id t]
  refine List.map_congr_left (fun b _ => ?_)
  simp
theorem cells_nums (t : Bs) : Lib.strCells (str t) = (numsB t).map (Value.int .u8) := by
  simp [Lib.strCells, numsB, str]
theorem rdB_own {w : World} {B : Nat} {a : Option Addr} {n c : Nat} {zs : List Int} (h : w.ownsRow B 5 1 (.slice a n c) n (zs.map (Value.int .u8))) (hn : n = zs.length) : RdB w a zs := by
  rcases h.2 with ⟨h1, h2⟩ | ⟨g, cap, cur, h1, h2⟩
  · simp at h1
    exact Or.inl ⟨h1.1, by have := h1.2.1; rw [hn] at this; exact List.length_eq_zero_iff.1 this⟩
  · simp at h1
    obtain ⟨rfl, -⟩ := h1
    refine Or.inr ⟨g, 0, rfl, fun _ => (h.lt g rfl).2, fun i hi => ?_⟩
    rw [Nat.zero_add, h.cellAt i (by omega)]
    simp [List.getD_eq_getElem?_getD, hi]
theorem RdB.kept {S : Nat → Prop} {w w' : World} {a : Option Addr} {zs : List Int} (h : RdB w a zs) (hk : Kept S w w') (hn : ∀ x, a = some x → ¬ S x.block) : RdB w' a zs := by
  rcases h with h | ⟨b, off, rfl, h2, h3⟩
  · exact Or.inl h
  · refine Or.inr ⟨b, off, rfl, fun hz => Nat.lt_of_lt_of_le (h2 hz) hk.size, fun i hi => ?_⟩
    exact (hk.cell (p := ⟨b, off + i, none⟩) (h2 (by intro e; simp [e] at hi)) (hn ⟨b, off, none⟩ rfl)).trans (h3 i hi)
/-- append of a text at a step of a region that draws its order. -/
theorem step_append_str {P : Program} {w : World} {ops : Array Oper} {o : Oper} {a : Act} {K : Act → World → Prop} {Q : Exit → Act → World → Prop} {E : Prop} (hgd : o.guard = none) (sl x : Operand) (t u : TypeId)
    (ho : o.op = .call { callee := .builtin .append, args := #[sl, x], argTypes := #[t, u] })
    (base : Nat) (e : TypeId) (i : TypeInfo) (ht : P.underlying t = some (.slice e)) (hu : P.underlying u = some .string) (hi : P.info? e = some i) (hz : i.zero = some (.int .u8 0))
    (hsize : i.size = 1) (hby : i.bytes = 1)
    (v : Value) (n : Nat) (xs : List Value) (hs : a.eval sl = v) (hown : w.ownsRow base e 1 v n xs) (s : ByteArray) (hx : a.eval x = .string s)
    (h63 : n + s.size ≤ maxLen) (hbytes : n + s.size ≤ 140737488355328) (hbase : base ≤ w.heap.size)
    (h : ∀ av cv w', w'.ownsRow base e 1 (.slice av (n + s.size) cv) (n + s.size) (xs ++ Lib.strCells s) → w.grownBy w' v.ownBlock → K (a.put o.dst (.slice av (n + s.size) cv)) w') :
    if Region.wanted o (yielded ops a.tmps) = true then Oper.wp P o a w K Q else E := by
  have hw : Region.wanted o (yielded ops a.tmps) = true := by simp [Region.wanted, hgd]
  rw [if_pos hw]
  obtain ⟨v', w', hr, h2, h3, h4⟩ := Lib.run_append_own_string (P := P) w base t u o.type e i ht hu hi hz hsize hby v n xs hown s h63 hbytes hbase
  unfold Oper.wp execOp
  simp only [ho, resolve, invoke, builtin, Sem.run_bind, Sem.run_pure, Result.andThen_ok, List.map_toArray, List.map_cons, List.map_nil, hs, hx, hr]
  obtain ⟨av, cv, rfl⟩ := ownsRow_shape h2
  exact h av cv w' h2 h3
theorem grown_below {w w' : World} (h : w.grownBy w' none) : Below w.heap.size w w' := ⟨h.os, h.tape, h.output, h.size, fun k hk => h.block k hk (by simp)⟩

set_option maxHeartbeats 3200000 in
theorem implPackLayer_any (a : Option Addr) (c n : Nat) (es : List En) (w : World) (h : RdE w a es) (hn : n = es.length) (hl : es.length ≤ 2000) (hs : SmallE es) :
    Calls Tryz.prog 7 #[.slice a n c] w fun r w' => ∃ av cv, r = .returned (.agg #[.int .i64 (layFaultP es), .slice av (layText es).length cv]) ∧ RdB w' av (numsB (layText es)) ∧ Below w.heap.size w w' := by
  subst hn
  obtain ⟨i0, hi0, hz0, hz1, hz2⟩ := info_parts Tryz.infoU8
  have X0 := hide (Box.new w (.int .i64 0) (.slice none 0 0) 30)
  have B0 := hide (below_alloc w (.cells #[.int .i64 0, .slice none 0 0] 30))
  have HLT := hide (layerText_any a c es.length es _ (h.below B0.out) rfl (by omega) hs)
  have hlen : (layText es).length ≤ 200000 := by
    unfold layText
    split
    · have := linesB_len es; omega
    · simp
  clear h hs
  generalize layFaultP es = F at *
  generalize layText es = TX at *
  have hsz := str_size TX
  have HCN := hide (cells_nums TX)
  go_enter Tryz.func7, Tryz.ntmps7
  go_wp2_with fail
  refine HLT.out.mono ?_
  rintro r w1 ⟨rfl, hb1⟩
  have A1 := hide (below_next hb1 (below_alloc w1 (.cells #[.int .i64 F, .string (str TX)] 35)))
  have X1 := hide (X0.out.below A1.out)
  have B1 := hide (below_next B0.out A1.out)
  have Y1 := hide (Box.new w1 (.int .i64 F) (.string (str TX)) 35)
  have hs1 : w.heap.size < w1.heap.size := by have := hb1.size; simp at this; omega
  clear hb1 X0 B0 HLT A1
  go_wp2_with fail
  generalize w1.alloc (.cells #[.int .i64 F, .string (str TX)] 35) = W1 at *
  generalize w1.heap.size = b1 at *
  have hW1 : b1 < W1.heap.size := Y1.out.1.lt
  obtain ⟨⟨y0, y1⟩, y2, y3⟩ := Y1.out
  obtain ⟨⟨x0, x1⟩, x2, x3⟩ := X1.out
  have hm1 : 0 + (str TX).size ≤ maxLen := by unfold maxLen; omega
  have hm2 : 0 + (str TX).size ≤ 140737488355328 := by omega
  have hWs : w.heap.size + 1 ≤ W1.heap.size := by omega
  go_region_law
    (refine step_append_str (by rfl) (.const (.slice none 0 0)) (.tmp 9) 22 9 (by rfl) (w.heap.size + 1) 5 i0 Tryz.underlying22 Tryz.underlying9 hi0 hz0 hz1 hz2 (.slice none 0 0) 0 [] (by rfl) (World.ownsRow_nil _ _ _ _) (str TX) (by rfl) hm1 hm2 (by first | exact hWs | (simp; exact hWs)) ?_; intro av cv w4 ho hg; have O4 := hide ho; have BB4 : Hid (Below W1.heap.size W1 w4) := hide ((Below.refl W1.heap.size W1).drew.trans (grown_below hg)); obtain ⟨⟨u0, u1⟩, u2, u3⟩ := X1.out.below BB4.out; obtain ⟨⟨v0, v1⟩, v2, v3⟩ := Y1.out.below BB4.out; clear ho hg)
  all_goals
    go_wp2_with fail
    have R4 : RdB w4 av (numsB TX) := rdB_own (B := w.heap.size + 1) (n := TX.length) (c := cv) (by have h9 := O4.out; rw [Nat.zero_add, hsz, List.nil_append, HCN.out] at h9; exact h9) (by rw [numsB_len])
    have hav : ∀ x, av = some x → ¬ x.block = w.heap.size := fun x hx hb => by
      subst hx
      have := (O4.out.lt x.block (by simp [Value.ownBlock])).1
      omega
    refine bodyPost_ret (v := .agg #[.int .i64 F, .slice av TX.length cv]) (by simp [results, Tryz.results7, go_sem, u0, u1]) rfl ⟨av, cv, rfl, R4.kept (Kept.two w4 w.heap.size 0 1 _ _) (fun x hx hb => hav x hx hb), ?_⟩
    exact ((below_next B1.out BB4.out).setCell (p := ⟨w.heap.size, 0, none⟩) (Nat.le_refl _) _).setCell (p := ⟨w.heap.size, 1, none⟩) (Nat.le_refl _) _
end Go.Proofs.YtlbccbikepkfiaaGreatDoor
