/-
  Texts put together: SnpU SnpV SnpW.
-/
import Derived.RangeFuncNested
import Derived.RangeFuncBound
import Derived.RangeFuncCalls
import Derived.RangeFuncLeaves
import Derived.RangeFuncBox
import Derived.Shelf.Abstract
import Derived.Shelf.RegionOpen
import Derived.OwnWalkIn
import Derived.TacticsInMore
import Derived.LoopNIn
import Derived.LoopIn
import Derived.Maps.AppendAt
import Derived.Test.YteegkblkfdnfiaaGreatKTold15
import Derived.Test.YteegkblkfdnfiaaGreatKTold14
import Derived.Test.YteegkblkfdnfiaaGreatKTold8
import Derived.Test.YteegkblkfdnfiaaGreatKTold1
import Derived.Test.YteegkblkfdnfiaaGreatKTold13
import Derived.Test.YteegkblkfdnfiaaGreatKTold16
namespace Go.Proofs.YteegkblkfdnfiaaGreat
open Go.RowKit Go.Shelf
set_option linter.unusedVariables false
attribute [local go_sem] Oper.semAt_some

theorem step_appIn {F : Fence} {n : Nat} {P : Program} {w : World} {ops : Array Oper} {o : Oper} {a : Act} {K : Act → World → Prop} {Q : Exit → Act → World → Prop} {E : Prop} (hgd : o.guard = none) (s x : Operand) (t : TypeId)
    (hop : o.op = Op.call { callee := Callee.builtin Builtin.append, args := #[s, x], argTypes := #[t, t] })
    (base : Nat) (e : TypeId) (i : TypeInfo) (z : Value) (size bytes : Nat) (h1 : P.underlying t = some (.slice e)) (h2 : P.info? e = some i) (h3 : i.zero = some z) (h4 : i.size = size) (h5 : i.bytes = bytes) (h6 : z.cells.size = size) (h7 : 0 < size)
    (v : Value) (k : Nat) (xs : List Value) (hs : a.eval s = v) (hown : w.ownsRow base e size v k xs) (ad : Addr) (m c : Nat) (news : List Value) (hx : a.eval x = .slice (some ad) m c) (hn : news.length = m * size)
    (hc : ∀ j u, news[j]? = some u → w.cell? (ad.add j) = some u) (h1c : ∀ u ∈ news, u.oneCell' = true) (N : Nat) (hN : k + m = N) (b1 : k + m ≤ maxLen) (b2 : (k + m) * bytes ≤ 140737488355328) (b3 : base ≤ w.heap.size)
    (hK : ∀ av cv w', w'.ownsRow base e size (.slice av N cv) N (xs ++ news) → w.grownBy w' v.ownBlock → K (a.put o.dst (.slice av N cv)) w') :
    if Region.wanted o (yielded ops a.tmps) = true then Oper.wpIn F n P o a w K Q else E := by
  have hw : Region.wanted o (yielded ops a.tmps) = true := by simp [Region.wanted, hgd]
  rw [if_pos hw]
  obtain ⟨v', w', hrun, r1, r2, r3⟩ := run_append_own (P := P) w base t o.type e i z size bytes h1 h2 h3 h4 h5 h6 h7 v k xs hown ad m c news hn hc h1c b1 b2 b3
  rw [hN] at r1
  obtain ⟨av, cv, rfl⟩ := ownsRow_shape r1
  unfold Oper.wpIn
  refine ⟨?_, ?_⟩
  · simp [Oper.about, hop, resolve, Target.leads, Sem.run_pure]
  · rw [Oper.semAt_plain F _ _ (by rw [hop]; intro c hc'; cases hc')]
    simp [execOp, hop, resolve, invoke, builtin, hs, hx, hrun, Result.andThen]
    exact hK av cv w' r1 r2
theorem kept_grown {A B : World} {row : Option Nat} (h : A.grownBy B row) : Kept (fun b => row = some b) A B := ⟨h.os, h.tape, h.output, h.size, fun k hk hn => h.block k hk (fun e => hn e.symm)⟩
theorem ownsRow_grown {A B : World} {row : Option Nat} {base n s : Nat} {e : TypeId} {v : Value} {xs : List Value} (h : A.ownsRow base e s v n xs) (hg : A.grownBy B row) (hr : ∀ r, row = some r → ∃ o : Obj, A.heap[r]? = some o ∧ o.isCells = false) : B.ownsRow base e s v n xs := by
  refine ownsRow_kept h (kept_grown hg) (fun b hb hS => ?_)
  obtain ⟨o, ho, hc⟩ := hr b hS
  rcases h.2 with ⟨rfl, _⟩ | ⟨g, cap, cur, rfl, _, hh, _⟩
  · simp [Value.ownBlock] at hb
  · obtain rfl : g = b := by simpa [Value.ownBlock] using hb
    rw [hh] at ho; cases ho; cases hc
theorem GW.grown {A B : World} {row : Option Nat} {base : Nat} {v : Value} {es : List En} (h : GW base A v es) (hg : A.grownBy B row) (hr : ∀ r, row = some r → ∃ o : Obj, A.heap[r]? = some o ∧ o.isCells = false) : GW base B v es := by
  obtain ⟨rs, e, g1, g2⟩ := h
  exact ⟨rs, e, ownsRow_grown g1 hg hr, fun r hx => ownsRow_grown (g2 r hx) hg hr⟩
def LL (B : Nat) (w : World) (v : Value) (ls : List (List En)) : Prop :=
  ∃ xs : List Ly, xs.map Ly.es = ls ∧ w.ownsRow B 35 1 v ls.length (xs.map lyV) ∧ ∀ x ∈ xs, GW B w (lyV x) x.es
theorem LL.nil (B : Nat) (w : World) : LL B w (.slice none 0 0) [] := ⟨[], rfl, World.ownsRow_nil _ _ _ _, fun x hx => by simp at hx⟩
theorem LL.shape {B : Nat} {w : World} {v : Value} {ls : List (List En)} (h : LL B w v ls) : ∃ a c, v = .slice a ls.length c := by
  obtain ⟨xs, _, h1, _⟩ := h
  exact ownsRow_shape h1
theorem LL.grown {B : Nat} {w w' : World} {row : Option Nat} {v : Value} {ls : List (List En)} (h : LL B w v ls) (hg : w.grownBy w' row) (hr : ∀ r, row = some r → ∃ o : Obj, w.heap[r]? = some o ∧ o.isCells = false) : LL B w' v ls := by
  obtain ⟨xs, h1, h2, h3⟩ := h
  exact ⟨xs, h1, ownsRow_grown h2 hg hr, fun x hx => (h3 x hx).grown hg hr⟩
theorem LL.kept {S : Nat → Prop} {B : Nat} {w w' : World} {v : Value} {ls : List (List En)} (h : LL B w v ls) (hk : Kept S w w') (hS : ∀ b, B ≤ b → ¬ S b) : LL B w' v ls := by
  obtain ⟨xs, h1, h2, h3⟩ := h
  exact ⟨xs, h1, ownsRow_kept h2 hk (fun b hb hs => hS b (h2.lt b hb).1 hs), fun x hx => (h3 x hx).kept hk hS⟩
theorem LL.below {B : Nat} {w w' : World} {v : Value} {ls : List (List En)} (h : LL B w v ls) (hk : Below w.heap.size w w') : LL B w' v ls := h.kept (S := fun _ => False) (Kept.of_below hk) (fun _ _ => id)
theorem LL.rd {B : Nat} {w : World} {a : Option Addr} {n c : Nat} {ls : List (List En)} (h : LL B w (.slice a n c) ls) : RdL w a ls := by
  intro hz
  obtain ⟨xs, hx, h1, h2⟩ := h
  have hpos : 0 < ls.length := List.length_pos_iff.2 hz
  have hl : xs.length = ls.length := by rw [← hx, List.length_map]
  rcases h1.2 with ⟨h', h0⟩ | ⟨g, cap, cur, h', hb, hgb, _⟩
  · omega
  · simp only [Value.slice.injEq] at h'
    obtain ⟨rfl, rfl, rfl⟩ := h'
    have hlt : g < w.heap.size := (Array.getElem?_eq_some_iff.1 hgb).1
    refine ⟨g, 0, fun i => ((xs[i]?).map Ly.a).getD none, fun i => ((xs[i]?).map Ly.c).getD 0, rfl, hlt, fun i es he => ?_⟩
    rw [← hx, List.getElem?_map] at he
    obtain ⟨x, hxi, rfl⟩ := Option.map_eq_some_iff.1 he
    have hi : i < xs.length := (List.getElem?_eq_some_iff.1 hxi).1
    simp only [hxi, Option.map_some, Option.getD_some, Nat.zero_add]
    refine ⟨?_, GW.rd (show GW B w (.slice x.a x.es.length x.c) x.es from h2 x (List.mem_of_getElem? hxi))⟩
    have := h1.cellAt i (by omega)
    rw [this, List.getElem?_map, hxi]; rfl
theorem LL.push {B : Nat} {w w2 : World} {v v' : Value} {ls : List (List En)} {xs : List Ly} {x : Ly} (hx : xs.map Ly.es = ls) (h1 : w.ownsRow B 35 1 v ls.length (xs.map lyV)) (h2 : ∀ x ∈ xs, GW B w (lyV x) x.es) (hG : GW B w (lyV x) x.es)
    (ho : w2.ownsRow B 35 1 v' (ls.length + 1) (xs.map lyV ++ [lyV x])) (hk : Kept (fun b => v.ownBlock = some b) w w2) : LL B w2 v' (ls ++ [x.es]) := by
  refine ⟨xs ++ [x], by rw [List.map_append, hx]; rfl, by simpa using ho, fun y hy => ?_⟩
  rcases List.mem_append.1 hy with hy | hy
  · exact (h2 y hy).apart h1 (by decide) (by decide) hk
  · simp only [List.mem_singleton] at hy
    subst hy
    exact hG.apart h1 (by decide) (by decide) hk
def KpR (b g : Nat) (W W' : World) : Prop := ∀ k, (k = b ∨ k = g) → ∀ o : Obj, W.heap[k]? = some o → o.isCells = true → W'.heap[k]? = some o
theorem KpR.refl (b g : Nat) (W : World) : KpR b g W W := fun _ _ _ h _ => h
theorem KpR.trans {b g : Nat} {A B C : World} (h : KpR b g A B) (k : KpR b g B C) : KpR b g A C := fun i hi o ho hc => k i hi o (h i hi o ho hc) hc
theorem KpR.put {b g : Nat} (W : World) (l : Nat) (o o' : Obj) (hl : W.heap[l]? = some o) (hc : o.isCells = false) : KpR b g W (W.putObj l o') := fun k _ o2 h2 hc2 => by
  by_cases e : k = l
  · subst e; rw [hl] at h2; cases h2; rw [hc] at hc2; cases hc2
  · exact (World.putObj_heap_other e).trans h2
theorem KpR.kept {b g : Nat} {S : Nat → Prop} {W W' : World} (hk : Kept S W W') (hb : ¬ S b) (hg : ¬ S g) : KpR b g W W' := fun k hkk o ho _ => by
  have hlt := (Array.getElem?_eq_some_iff.1 ho).1
  rcases hkk with rfl | rfl
  · exact (hk.block _ hlt hb).trans ho
  · exact (hk.block _ hlt hg).trans ho
theorem KpR.cell {b g k o : Nat} {W W' : World} {v : Value} (h : KpR b g W W') (hk : k = b ∨ k = g) (hc : ∃ o : Obj, W.heap[k]? = some o ∧ o.isCells = true) (hv : W.cell? ⟨k, o, none⟩ = some v) : W'.cell? ⟨k, o, none⟩ = some v := by
  obtain ⟨ob, ho, hoc⟩ := hc
  exact (World.cell?_of_block (w := W) (a := ⟨k, o, none⟩) ((h k hk ob ho hoc).trans ho.symm)).trans hv
abbrev Pl (P : Rs → Prop) := Int × { r : Rs // P r }
def plV {P : Rs → Prop} (x : Pl P) : Array Value := #[.int .i64 x.1, .agg #[.string (str x.2.1.s.name), .string (str x.2.1.s.parent), .int .i64 x.2.1.s.kind, .bool x.2.1.s.lease, .slice x.2.1.a x.2.1.s.layer.length x.2.1.c]]
set_option maxRecDepth 100000 in
set_option maxHeartbeats 2000000 in
theorem backward1_in (n : Nat) (l Bn g cv : Nat) (P : Rs → Prop) (rs : List Rs) (hP : ∀ r ∈ rs, P r) (hlen : rs.length ≤ 1048576) (J Jx : List (Pl P) → World → Prop) (B : Nat) (hJ : AbidesFrom B J)
    (hY : ∀ (pre : List (Pl P)) (x : Pl P) W, J pre W → pre.length < rs.length → YieldAt Fence.wide (n - 1) Tryz.prog l (plV x) W fun e W' =>
      (e = .returned (.bool true) ∧ J (pre ++ [x]) W' ∧ KpR Bn g W W') ∨ (e = .returned (.bool false) ∧ Jx (pre ++ [x]) W'))
    (W : World) (hBn : ∃ o : Obj, W.heap[Bn]? = some o ∧ o.isCells = true) (hg : ∃ o : Obj, W.heap[g]? = some o ∧ o.isCells = true) (hc : W.cell? ⟨Bn, 0, none⟩ = some (.slice (some ⟨g, 0, none⟩) rs.length cv)) (hrow : ∀ i r, rs[i]? = some r → W.cell? ⟨g, i * 5, none⟩ = some (.string (str r.s.name)) ∧ W.cell? ⟨g, i * 5 + 1, none⟩ = some (.string (str r.s.parent)) ∧ W.cell? ⟨g, i * 5 + 2, none⟩ = some (.int .i64 r.s.kind) ∧ W.cell? ⟨g, i * 5 + 3, none⟩ = some (.bool r.s.lease) ∧ W.cell? ⟨g, i * 5 + 4, none⟩ = some (.slice r.a r.s.layer.length r.c)) (h0 : J [] W) :
    CallsIn Fence.wide n Tryz.prog 88 #[.func (.yield l) #[] #[], .pointer (some ⟨Bn, 0, none⟩)] W fun e W' => (∃ v, e = .returned v) ∧
      ((∃ ys, ys.map (fun x => x.2.1) = rs.reverse ∧ J ys W') ∨ (∃ pre, True ∧ Jx pre W')) := by
  have HROW := hide hrow
  have HCB := hide hc
  clear hrow
  refine callsIn_of_wp Tryz.func88 rfl trivial ?_ rfl
  simp only [Tryz.ntmps88, List.size_toArray, List.length_cons, List.length_nil, Nat.reduceAdd, Nat.reduceSub, Array.replicate_succ, Array.replicate_zero, List.push_toArray, List.append_toArray, List.nil_append, List.cons_append]
  gi_wp2
  clear hc
  gi_loopw [3] (fun i wr => ∃ (pre : List (Pl P)) (k : Nat), k ≤ rs.length ∧ i = .int .i64 ((k : Int) - 1) ∧ pre.length + k = rs.length ∧ Hid (pre.map (fun x => x.2.1) = (rs.drop k).reverse) ∧ Hid (J pre wr) ∧ Hid (KpR Bn g W wr)) (fun i _ => (intOf i + 1).toNat)
  case atStart => exact ⟨[], rs.length, Nat.le_refl _, by first | rfl | simp, by simp, hide (by simp), hide h0, hide (KpR.refl _ _ _)⟩
  case round =>
    obtain ⟨pre, k, hk, rfl, hpk, HPR, HJ, HW⟩ := hrel
    cases k with
    | zero =>
      gi_wp2_with fail
      go_end0
      exact ⟨⟨_, rfl⟩, .inl ⟨pre, by have := HPR.out; simpa using this, HJ.out⟩⟩
    | succ j =>
      obtain ⟨r, hr⟩ : ∃ r, rs[j]? = some r := ⟨_, List.getElem?_eq_getElem (by omega)⟩
      have hPr : P r := hP r (List.mem_of_getElem? hr)
      obtain ⟨d0, d1, d2, d3, d4⟩ := HROW.out j r hr
      have c0 := HW.out.cell (.inr rfl) hg d0
      have c1 := HW.out.cell (.inr rfl) hg d1
      have c2 := HW.out.cell (.inr rfl) hg d2
      have c3 := HW.out.cell (.inr rfl) hg d3
      have c4 := HW.out.cell (.inr rfl) hg d4
      have cB := HW.out.cell (.inl rfl) hBn HCB.out
      have ez : (((j + 1 : Nat) : Int) - 1) = (j : Int) := by omega
      have hj0 : (0 : Int) ≤ (j : Int) := by omega
      have hj1 : (j : Int) < (rs.length : Int) := by omega
      have HPN := hide (show (pre ++ [((j : Int), (⟨r, hPr⟩ : { r : Rs // P r }))]).map (fun x => x.2.1) = (rs.drop j).reverse by
        rw [List.map_append, HPR.out, drop_at hr, List.reverse_cons]; rfl)
      obtain ⟨fn, tmps, assign, body, hy, hR⟩ := hY pre ((j : Int), ⟨r, hPr⟩) wr HJ.out (by omega)
      dsimp only [plV] at hy
      rw [ez]
      clear d0 d1 d2 d3 d4 hr
      gi_wp2_with fail
      refine ⟨fun h => (by cases h), hR.mono ?_⟩
      clear hR hy
      rintro e W3 (⟨rfl, hJ3, hk3⟩ | ⟨rfl, hJx3⟩)
      · have H3 := hide hJ3
        have B3 := hide (HW.out.trans hk3)
        clear hJ3 hk3 c0 c1 c2 c3 c4 cB
        gi_wp2_with fail
        go_roundw
        case rel => exact ⟨_, j, by omega, by first | rfl | go_num | simp, by simp; omega, HPN, H3, B3⟩
        case measure => simp [intOf]
      · have H3 := hide hJx3
        clear hJx3
        gi_wp2_with fail
        refine bodyPost_ret (results_none rfl _ _ _) rfl ?_
        exact ⟨⟨_, rfl⟩, .inr ⟨_, trivial, H3.out⟩⟩
end Go.Proofs.YteegkblkfdnfiaaGreat

namespace Go.Proofs.YteegkblkfdnfiaaGreat
open Go.RowKit Go.Shelf
set_option linter.unusedVariables false
attribute [local go_sem] Oper.semAt_some

def ResL (q : Int) (ls : List (List En)) (w : World) (r : Ending) (w' : World) : Prop :=
  ∃ av cv, r = .returned (.agg #[.int .i64 q, .slice av ls.length cv]) ∧ RdL w' av ls ∧ ls.length ≤ cv ∧ Below w.heap.size w w'
set_option maxHeartbeats 1000000 in
theorem backward_in (a : Option Addr) (n c : Nat) (w : World) :
    Calls Tryz.prog 45 #[.slice a n c] w fun e w' => e = .returned (.func (.func 88) #[] #[.pointer (some ⟨w.heap.size, 0, none⟩)]) ∧ w' = w.alloc (.cells #[.slice a n c] 24) := by
  go_enter Tryz.func45, Tryz.ntmps45
  go_wp2
  go_ret
  exact ⟨rfl, rfl⟩
def layersOf {P : Rs → Prop} (pre : List (Pl P)) : List (List En) := pre.map fun x => x.2.1.s.layer
theorem layersOf_snoc {P : Rs → Prop} (pre : List (Pl P)) (x : Pl P) : layersOf (pre ++ [x]) = layersOf pre ++ [x.2.1.s.layer] := by simp [layersOf]
theorem layersOf_all {P : Rs → Prop} {ys : List (Pl P)} {rs : List Rs} (h : ys.map (fun x => x.2.1) = rs) : layersOf ys = rs.map fun r => r.s.layer := by rw [← h]; simp [layersOf]
theorem ll_own {β : Type} (R B : Nat) (t : TypeId) (f : β → List (List En)) : Go.Own (fun s W => ∃ v, Boxed W B t v ∧ LL R W v (f s)) := by
  intro s W W' row hs hg hr
  obtain ⟨v, h1, h2⟩ := hs
  exact ⟨v, boxed_own B t (fun (_ : Unit) => v) () W W' row h1 hg hr, h2.grown hg hr⟩
theorem keeps_below {W W' : World} (h : Below W.heap.size W W') : KeepsOthers W W' := ⟨h.size, fun k o hk _ => (h.block k (Array.getElem?_eq_some_iff.1 hk).1).trans hk⟩
theorem boxed_below {W W' : World} {B : Nat} {t : TypeId} {v : Value} (h : Boxed W B t v) (hk : Below W.heap.size W W') : Boxed W' B t v := (hk.block B h.lt).trans h
set_option maxRecDepth 100000 in
set_option maxHeartbeats 6400000 in
theorem implChainOf_ok (a : Option Addr) (c n : Nat) (l : List Sn) (nm : Bs) (s : Sn) (w : World) (h : RdS w a l) (hn : n = l.length) (hR : RightS l) (hs : SmallS l) (ht : atS l nm = some s) :
    Calls Tryz.prog 11 #[.slice a n c, .string (str nm)] w (ResL 0 (chainS l s) w) := by
  subst hn
  obtain ⟨i1, ki, kz0, kz1, kz2⟩ := info_parts infoLs
  have hl := hR.len
  have B0 := hide (below_alloc w (.cells #[.int .i64 0, .slice none 0 0] 33))
  have X0 := hide (Box.new w (.int .i64 0) (.slice none 0 0) 33)
  have HSF := hide (implSnapsFault_any a c l.length l _ (h.below B0.out) rfl (by omega) hs)
  rw [snF_zero.2 hR] at HSF
  have HRd := hide h
  have HAT := hide ht
  have HNE := hide (show ∀ y ∈ l, y.name ≠ [] from fun y hy => nmOk_ne (hR.own y hy).1)
  have HNM := hide (nmOk_ne (hR.own s (atS_some ht).1).1)
  have HSM := hide (show ∀ y ∈ l, y.layer.length ≤ 1048576 ∧ SmallE y.layer from fun y hy => (hs.2 y hy).2.2)
  have HMEM := hide (show ∀ y ∈ lineS l 5 (some s), y ∈ l from lineS_mem (fun y hy => by cases hy; exact (atS_some ht).1))
  have hL5 := lineS_len l 5 (some s)
  have hL0 : 0 < (lineS l 5 (some s)).length := by simp [lineS]
  clear h hR hs ht
  refine (callsIn_wide (n := 4)).1 ?_
  refine callsIn_of_wp_marks Tryz.func11 rfl trivial ?_ rfl
  simp only [Tryz.ntmps11, List.size_toArray, List.length_cons, List.length_nil, Nat.reduceAdd, Nat.reduceSub, Array.replicate_succ, Array.replicate_zero, List.push_toArray, List.append_toArray, List.nil_append, List.cons_append]
  gi_wp2_with fail
  have hsz0 : (w.alloc (.cells #[.int .i64 0, .slice none 0 0] 33)).heap.size = w.heap.size + 1 := by simp
  generalize w.alloc (.cells #[.int .i64 0, .slice none 0 0] 33) = W0 at *
  refine ⟨trivial, ?_⟩
  refine (callsIn_wide.2 HSF.out).mono ?_
  rintro e w1 ⟨rfl, hb1⟩
  have B1 := hide (below_next B0.out hb1)
  have X1 := hide (X0.out.below hb1)
  have hs1 := hb1.size
  clear hb1
  gi_wp2_with fail
  refine ⟨trivial, ?_⟩
  refine (callsIn_wide.2 (snapOf_any a c l.length l nm w w1 B1.out HRd.out rfl (by omega))).mono ?_
  rintro r w2 ⟨⟨e, x2, c2, he, rfl, hx2⟩, hb2⟩
  rw [HAT.out] at he
  have he2 : e = s := he
  subst he2
  have HX2 := hide hx2
  have B2 := hide (below_next B1.out (below_next hb2 (below_alloc w2 (.cells #[.string (str e.name), .string (str e.parent), .int .i64 e.kind, .bool e.lease, .slice x2 e.layer.length c2] 37))))
  have X2 := hide (X1.out.below (below_next hb2 (below_alloc w2 (.cells #[.string (str e.name), .string (str e.parent), .int .i64 e.kind, .bool e.lease, .slice x2 e.layer.length c2] 37))))
  have F2 := hide (Five.new w2 (.string (str e.name)) (.string (str e.parent)) (.int .i64 e.kind) (.bool e.lease) (.slice x2 e.layer.length c2) 37)
  have hs2 := hb2.size
  clear hb2 he hx2
  gi_wp2_with fail
  have hsz2 : (w2.alloc (.cells #[.string (str e.name), .string (str e.parent), .int .i64 e.kind, .bool e.lease, .slice x2 e.layer.length c2] 37)).heap.size = w2.heap.size + 1 := by simp
  generalize w2.alloc (.cells #[.string (str e.name), .string (str e.parent), .int .i64 e.kind, .bool e.lease, .slice x2 e.layer.length c2] 37) = W2 at *
  refine ⟨trivial, ?_⟩
  refine (callsIn_wide.2 (isNone_no e _ _ _ HNM.out)).mono ?_
  rintro r w3 ⟨rfl, hb3⟩
  have B3 := hide (below_next B2.out (below_next hb3 (below_alloc w3 (.cells #[.slice none 0 0] 31))))
  have X3 := hide (X2.out.below (below_next hb3 (below_alloc w3 (.cells #[.slice none 0 0] 31))))
  have F3 := hide (F2.out.below (below_next hb3 (below_alloc w3 (.cells #[.slice none 0 0] 31))))
  have V3 := hide (Boxed.new w3 31 (.slice none 0 0))
  have hs3 := hb3.size
  obtain ⟨f0, f1, f2, f3, f4⟩ := F3.out
  clear hb3
  gi_wp2_with fail
  have hsz3 : (w3.alloc (.cells #[.slice none 0 0] 31)).heap.size = w3.heap.size + 1 := by simp
  generalize w3.alloc (.cells #[.slice none 0 0] 31) = W3 at *
  refine ⟨trivial, ?_⟩
  refine (callsIn_wide.2 (lineOf_any a c l.length l e x2 c2 w W3 B3.out HRd.out HX2.out rfl (by omega) HNE.out HNM.out)).mono ?_
  rintro r w4 ⟨av4, cv4, rfl, hL4, hb4⟩
  have HL4 := hide hL4
  have B4 := hide (below_next B3.out hb4)
  have X4 := hide (X3.out.below hb4)
  have V4 := hide (boxed_below V3.out hb4)
  have hs4 := hb4.size
  clear hL4 hb4 f0 f1 f2 f3 f4
  gi_wp2_with fail
  refine ⟨trivial, ?_⟩
  refine (callsIn_wide.2 (backward_in _ _ _ _)).mono ?_
  rintro r w5 ⟨rfl, rfl⟩
  gi_wp2_with fail
  obtain ⟨rs, g1, g2, g3⟩ := HL4.out
  obtain ⟨g, hgv, -⟩ := row_addr g2 (.inl hL0)
  subst hgv
  have hgl := g2.lt g rfl
  have hrsl : rs.length = (lineS l 5 (some e)).length := by rw [← g1, List.length_map]
  have hgc : ∃ o : Obj, (w4.alloc (.cells #[.slice (some ⟨g, 0, none⟩) (lineS l 5 (some e)).length cv4] 24)).heap[g]? = some o ∧ o.isCells = true := by
    rcases g2.2 with ⟨h9, _⟩ | ⟨g', cap, cur, h9, _, hh, _⟩
    · cases h9
    · simp only [Value.slice.injEq, Option.some.injEq, Addr.mk.injEq] at h9
      obtain ⟨⟨rfl, -⟩, -⟩ := h9
      exact ⟨_, (Below.heap_alloc _ _ _ hgl.2).trans hh, rfl⟩
  have hbc : ∃ o : Obj, (w4.alloc (.cells #[.slice (some ⟨g, 0, none⟩) (lineS l 5 (some e)).length cv4] 24)).heap[w4.heap.size]? = some o ∧ o.isCells = true := ⟨_, World.alloc_heap_new w4 _, rfl⟩
  have hrow : ∀ i r, rs[i]? = some r → (w4.alloc (.cells #[.slice (some ⟨g, 0, none⟩) (lineS l 5 (some e)).length cv4] 24)).cell? ⟨g, i * 5, none⟩ = some (.string (str r.s.name)) ∧ (w4.alloc (.cells #[.slice (some ⟨g, 0, none⟩) (lineS l 5 (some e)).length cv4] 24)).cell? ⟨g, i * 5 + 1, none⟩ = some (.string (str r.s.parent)) ∧ (w4.alloc (.cells #[.slice (some ⟨g, 0, none⟩) (lineS l 5 (some e)).length cv4] 24)).cell? ⟨g, i * 5 + 2, none⟩ = some (.int .i64 r.s.kind) ∧ (w4.alloc (.cells #[.slice (some ⟨g, 0, none⟩) (lineS l 5 (some e)).length cv4] 24)).cell? ⟨g, i * 5 + 3, none⟩ = some (.bool r.s.lease) ∧ (w4.alloc (.cells #[.slice (some ⟨g, 0, none⟩) (lineS l 5 (some e)).length cv4] 24)).cell? ⟨g, i * 5 + 4, none⟩ = some (.slice r.a r.s.layer.length r.c) := fun i r hr => by
    have hi := (List.getElem?_eq_some_iff.1 hr).1
    have hc := fun q hq => ((below_alloc w4 (.cells #[.slice (some ⟨g, 0, none⟩) (lineS l 5 (some e)).length cv4] 24)).cell (p := ⟨g, i * 5 + q, none⟩) hgl.2).trans ((g2.cellAt (i * 5 + q) (by omega)).trans (rowN_get rs i q r hr hq))
    exact ⟨hc 0 (by decide), hc 1 (by decide), hc 2 (by decide), hc 3 (by decide), hc 4 (by decide)⟩
  have HREV := hide (show (rs.reverse.map fun r => r.s.layer) = chainS l e by unfold chainS; rw [← g1, List.map_reverse, List.map_map]; rfl)
  have hPP : ∀ r ∈ rs, RdE w r.a r.s.layer ∧ r.s ∈ l := fun r hr => ⟨g3 r hr, HMEM.out _ (by rw [← g1]; exact List.mem_map_of_mem hr)⟩
  have B5 : Below w.heap.size w (w4.alloc (.cells #[.slice (some ⟨g, 0, none⟩) (lineS l 5 (some e)).length cv4] 24)) := below_next B4.out (below_alloc _ _)
  have X5 := X4.out.below (below_alloc w4 (.cells #[.slice (some ⟨g, 0, none⟩) (lineS l 5 (some e)).length cv4] 24))
  have V5 := boxed_below V4.out (below_alloc w4 (.cells #[.slice (some ⟨g, 0, none⟩) (lineS l 5 (some e)).length cv4] 24))
  have C5 : (w4.alloc (.cells #[.slice (some ⟨g, 0, none⟩) (lineS l 5 (some e)).length cv4] 24)).cell? ⟨w4.heap.size, 0, none⟩ = some (.slice (some ⟨g, 0, none⟩) rs.length cv4) := by rw [hrsl]; simp
  have hsz5 : (w4.alloc (.cells #[.slice (some ⟨g, 0, none⟩) (lineS l 5 (some e)).length cv4] 24)).heap.size = w4.heap.size + 1 := by simp
  clear HL4 g1 g2 g3
  generalize w4.alloc (.cells #[.slice (some ⟨g, 0, none⟩) (lineS l 5 (some e)).length cv4] 24) = W5 at *
  refine wpIn_rangeFunc_ownH (α := Pl (fun r => RdE w r.a r.s.layer ∧ r.s ∈ l)) rfl (by decide) (gf := 88) (lb := #[.pointer (some ⟨w4.heap.size, 0, none⟩)]) rfl trivial (enters_of Tryz.func88 (by kernel_rfl) rfl)
    (encs := plV) (Kp := KpR w4.heap.size g) (S := fun ys => ys.map (fun x => x.2.1) = rs.reverse) (Sp := fun _ => True) (N := rs.length) (w0 := W5)
    (fun l' J Jx W hW hJ _ hY h0 => backward1_in _ l' w4.heap.size g cv4 _ rs hPP (by omega) J Jx _ hJ hY W
      (by obtain ⟨o, h1, h2⟩ := hbc; exact ⟨o, (hW.block _ (by omega)).trans h1, h2⟩) (by obtain ⟨o, h1, h2⟩ := hgc; exact ⟨o, (hW.block _ (by omega)).trans h1, h2⟩) ((hW.cell (p := ⟨w4.heap.size, 0, none⟩) (by show w4.heap.size < _; omega)).trans C5)
      (fun i r hr => by obtain ⟨c0, c1, c2, c3, c4⟩ := hrow i r hr; exact ⟨(hW.cell (p := ⟨g, _, none⟩) (by show g < _; omega)).trans c0, (hW.cell (p := ⟨g, _, none⟩) (by show g < _; omega)).trans c1, (hW.cell (p := ⟨g, _, none⟩) (by show g < _; omega)).trans c2, (hW.cell (p := ⟨g, _, none⟩) (by show g < _; omega)).trans c3, (hW.cell (p := ⟨g, _, none⟩) (by show g < _; omega)).trans c4⟩) h0)
    KpR.trans (fun W l' o o' _ hl hc _ => KpR.put W l' o o' hl hc) (Below.refl _ _) (fun _ => rfl)
    (fun pre W => ((∃ v, Boxed W w3.heap.size 31 v ∧ LL (w4.heap.size + 1) W v (layersOf pre)) ∧ Box W w.heap.size (.int .i64 0) (.slice none 0 0) ∧ w4.heap.size + 1 ≤ W.heap.size) ∧ Below w.heap.size w W)
    (fun _ _ _ => False)
    (OwnFrom.and (OwnFrom.and (Own.from (ll_own _ _ _ layersOf) _) (OwnFrom.and (Own.from (box_own _ _ _) _) (fun _ _ _ _ hs hg _ => Nat.le_trans hs hg.size))) (ownFrom_below (Nat.le_refl _) (by omega)))
    (fun _ _ _ _ _ hs _ _ => hs)
    ⟨⟨⟨_, V5, LL.nil _ _⟩, X5, by omega⟩, B5⟩
    (fun x a' W => ∃ Bx, w4.heap.size < Bx ∧ Five W Bx (.string (str x.2.1.s.name)) (.string (str x.2.1.s.parent)) (.int .i64 x.2.1.s.kind) (.bool x.2.1.s.lease) (.slice x.2.1.a x.2.1.s.layer.length x.2.1.c) ∧ a' = { tmps := #[.slice a l.length c, .string (str nm), undef, undef, .pointer (some ⟨w.heap.size, 0, none⟩), .int .i64 0, .pointer (some ⟨w2.heap.size, 0, none⟩), .pointer (some ⟨w3.heap.size, 0, none⟩), undef, .pointer (some ⟨Bx, 0, none⟩), .slice a l.length c, .int .i64 0, .int .i64 0, .bool false, undef, undef, .slice a l.length c, .string (str nm), .agg #[.string (str e.name), .string (str e.parent), .int .i64 e.kind, .bool e.lease, .slice x2 e.layer.length c2], .agg #[.string (str e.name), .string (str e.parent), .int .i64 e.kind, .bool e.lease, .slice x2 e.layer.length c2], .bool false, undef, .slice a l.length c, .agg #[.string (str e.name), .string (str e.parent), .int .i64 e.kind, .bool e.lease, .slice x2 e.layer.length c2], .slice (some ⟨g, 0, none⟩) (lineS l 5 (some e)).length cv4, .func (.func 88) #[] #[.pointer (some ⟨w4.heap.size, 0, none⟩)], .int .i64 x.1, .agg #[.string (str x.2.1.s.name), .string (str x.2.1.s.parent), .int .i64 x.2.1.s.kind, .bool x.2.1.s.lease, .slice x.2.1.a x.2.1.s.layer.length x.2.1.c], undef, undef, undef, undef, undef, undef, undef, undef], defers := [] })
    (fun x a' _ X Y row hs hg hr => by
      obtain ⟨Bx, h1, h2, h3⟩ := hs
      have hr2 := fun r e => (hr r e).2
      exact ⟨Bx, h1, ⟨cell_kept h2.1 hg hr2, cell_kept h2.2.1 hg hr2, cell_kept h2.2.2.1 hg hr2, cell_kept h2.2.2.2.1 hg hr2, cell_kept h2.2.2.2.2 hg hr2⟩, h3⟩)
    ?assign ?body ?done ?stop
  case assign =>
    rintro l' pre ⟨xi, ⟨xr, hxr⟩⟩ W K ⟨⟨⟨v, hv, hLL⟩, hX, hsz⟩, hB⟩ hK
    dsimp only [plV]
    gi_wp2_with fail
    refine hK _ _ ((KeepsOthers.alloc _ _).from _) (KpR.kept (S := fun _ => False) (Kept.of_below (below_alloc W _)) id id) ⟨⟨⟨v, boxed_below hv (below_alloc W _), hLL.below (below_alloc W _)⟩, hX.below (below_alloc W _), by simp; omega⟩, (hB.trans ((below_alloc W _).mono hB.size))⟩ ⟨W.heap.size, by omega, Five.new W _ _ _ _ _ _, ?_⟩
    first | rfl | trace_state
  case body =>
    rintro l' pre ⟨xi, ⟨xr, hxr⟩⟩ a' W hl' ⟨rc, hrc⟩ ⟨⟨⟨v, hv, hLL⟩, hX, hsz⟩, hB⟩ ⟨Bx, hBx, hF, rfl⟩ hlt
    obtain ⟨xs, q1, q2, q3⟩ := hLL
    have hmx : Tryz.prog.follows .mixedOrders = true := by kernel_rfl
    obtain ⟨va, vc, rfl⟩ := ownsRow_shape q2
    have HV := hide hv
    have HX := hide hX
    have HB := hide hB
    have HFV := hide (show Five W Bx (.string (str xr.s.name)) (.string (str xr.s.parent)) (.int .i64 xr.s.kind) (.bool xr.s.lease) (.slice xr.a xr.s.layer.length xr.c) from hF)
    have HQ1 := hide q1
    have HQ2 := hide q2
    have HQ3 := hide q3
    have HXR := hide hxr.1
    have hsm := HSM.out _ hxr.2
    have HLN := hide (show (layersOf pre).length = pre.length by simp [layersOf])
    have hm1 : (layersOf pre).length + 1 ≤ maxLen := by have := HLN.out; unfold maxLen; omega
    have hm2 : ((layersOf pre).length + 1) * 24 ≤ 140737488355328 := by have := HLN.out; omega
    have HVD : Hid (Boxed W.drew w3.heap.size 31 (.slice va (layersOf pre).length vc)) := hide HV.out
    have hv0 := HVD.out.cell
    have BD : Below w.heap.size w W.drew := HB.out.drew
    have HCE := hide (copiedEntries_any xr.a xr.c xr.s.layer.length xr.s.layer W.drew (HXR.out.below BD) rfl hsm.1 hsm.2)
    have hf4 : W.drew.cell? ⟨Bx, 4, none⟩ = some (.slice xr.a xr.s.layer.length xr.c) := HFV.out.2.2.2.2
    have HROW : Hid (∀ w6 : World, Below W.drew.heap.size W.drew w6 → ∀ {o : Obj}, (w6.alloc o).ownsRow (w4.heap.size + 1) 35 1 (.slice va (layersOf pre).length vc) (layersOf pre).length (xs.map lyV)) := hide (fun w6 hb6 o => ownsRow_below (ownsRow_below (show W.drew.ownsRow _ _ _ _ _ _ from HQ2.out) hb6) (below_alloc w6 o))
    have HFIN : Hid (∀ (w6 : World) (av6 : Option Addr) (cv6 : Nat), GW W.drew.heap.size w6 (.slice av6 xr.s.layer.length cv6) xr.s.layer → Below W.drew.heap.size W.drew w6 → ∀ (av8 : Option Addr) (cv8 : Nat) (w8 : World), w8.ownsRow (w4.heap.size + 1) 35 1 (.slice av8 ((layersOf pre).length + 1) cv8) ((layersOf pre).length + 1) (xs.map lyV ++ [lyV ⟨xr.s.layer, av6, cv6⟩]) → (w6.alloc (.cells #[.slice av6 xr.s.layer.length cv6] 35)).grownBy w8 (Value.slice va (layersOf pre).length vc).ownBlock →
        w8.cell? ⟨w3.heap.size, 0, none⟩ = some (.slice va (layersOf pre).length vc) ∧ w8.frozen? ⟨w3.heap.size, 0, none⟩ = false ∧ (KeepsFrom W5.heap.size W (w8.setCell ⟨w3.heap.size, 0, none⟩ (.slice av8 ((layersOf pre).length + 1) cv8)) ∧ KpR w4.heap.size g W (w8.setCell ⟨w3.heap.size, 0, none⟩ (.slice av8 ((layersOf pre).length + 1) cv8)) ∧ (((∃ v, Boxed (w8.setCell ⟨w3.heap.size, 0, none⟩ (.slice av8 ((layersOf pre).length + 1) cv8)) w3.heap.size 31 v ∧ LL (w4.heap.size + 1) (w8.setCell ⟨w3.heap.size, 0, none⟩ (.slice av8 ((layersOf pre).length + 1) cv8)) v (layersOf (pre ++ [(xi, ⟨xr, hxr⟩)]))) ∧ Box (w8.setCell ⟨w3.heap.size, 0, none⟩ (.slice av8 ((layersOf pre).length + 1) cv8)) w.heap.size (.int .i64 0) (.slice none 0 0) ∧ w4.heap.size + 1 ≤ (w8.setCell ⟨w3.heap.size, 0, none⟩ (.slice av8 ((layersOf pre).length + 1) cv8)).heap.size) ∧ Below w.heap.size w (w8.setCell ⟨w3.heap.size, 0, none⟩ (.slice av8 ((layersOf pre).length + 1) cv8))))) := hide (by
      intro w6 av6 cv6 hG6 hb6 av8 cv8 w8 ho8 hg8
      have hdr : W.drew.heap.size = W.heap.size := rfl
      have hk8 := kept_grown hg8
      have BA : Below W.drew.heap.size W.drew (w6.alloc (.cells #[.slice av6 xr.s.layer.length cv6] 35)) := below_next hb6 (below_alloc w6 _)
      have hlow : ∀ b, b < w4.heap.size + 1 → ¬ (Value.slice va (layersOf pre).length vc).ownBlock = some b := fun b hb hS => by have := (HQ2.out.lt b hS).1; omega
      have HV8 := boxed_kept (boxed_below HVD.out BA) hk8 (hlow _ (by omega))
      have KS := Kept.setCell (S := fun b => b = w3.heap.size) (p := ⟨w3.heap.size, 0, none⟩) (Kept.refl _ w8) (fun _ => rfl) (.slice av8 ((layersOf pre).length + 1) cv8)
      have hsA := BA.size
      have hs8 := hk8.size
      have hsS := KS.size
      have hKO : KeepsOthers (w6.alloc (.cells #[.slice av6 xr.s.layer.length cv6] 35)) w8 := KeepsOthers.of_grownBy hg8 (fun j o ej hj => by
        rcases (HROW.out w6 hb6 (o := .cells #[.slice av6 xr.s.layer.length cv6] 35)).2 with ⟨h9, _⟩ | ⟨g', cap, cur, h9, _, hgb, _⟩
        · rw [h9] at ej; simp [Value.ownBlock] at ej
        · rw [h9] at ej
          obtain rfl : g' = j := by simpa [Value.ownBlock] using ej
          rw [hgb] at hj; cases hj; rfl)
      have hKA : KeepsOthers W (w6.alloc (.cells #[.slice av6 xr.s.layer.length cv6] 35)) := (KeepsOthers.drew W).trans (keeps_below BA)
      have hLL8 := LL.push (x := ⟨xr.s.layer, av6, cv6⟩) HQ1.out (HROW.out w6 hb6) (fun x hx => (show GW (w4.heap.size + 1) W.drew (lyV x) x.es from HQ3.out x hx).below BA) ((hG6.mono (by omega)).below (below_alloc w6 _)) ho8 hk8
      refine ⟨HV8.cell, HV8.frozen, ((hKA.trans hKO).trans (KeepsOthers.setCell _ _ _)).from _, ?_, ⟨⟨_, HV8.set _, ?_⟩, ?_, by omega⟩, ?_⟩
      · exact ((show KpR w4.heap.size g W _ from KpR.kept (W := W.drew) (S := fun _ => False) (Kept.of_below BA) id id).trans (KpR.kept hk8 (hlow _ (by omega)) (hlow _ (by omega)))).trans (KpR.kept KS (by omega) (by omega))
      · rw [layersOf_snoc]
        exact hLL8.kept KS (fun b hb e => by omega)
      · exact (((show Box W.drew w.heap.size (.int .i64 0) (.slice none 0 0) from HX.out).below BA).kept hk8 (hlow _ (by omega))).kept KS (by omega)
      · exact ((BD.trans (BA.mono (by have := BD.size; omega))).trans (hk8.below (by have := BD.size; omega) (fun q hq => hlow q (by omega)))).trans (KS.below (by have := BD.size; omega) (fun q hq e => by omega)))
    dsimp only
    clear hv hX hB hF q1 q2 q3
    gi_wp2_with fail
    refine wpIn_region_any hmx ?_
    try (change wpAnyIn _ _ _ _ _ _ _ _ _ (World.drew _))
    refine wpAnyIn_ready (rs := [0, 1]) (by kernel_rfl) (by simp) ?_
    refine AllReadyIn.cons rfl (fun K hK => ?_) (AllReadyIn.cons rfl (fun K hK => ?_) AllReadyIn.nil)
    · go_simp
      refine hK _ _ ?_
      clear hK K
      try simp only [Act.put, List.setIfInBounds_toArray, List.set_cons_zero, List.set_cons_succ]
      refine wpAnyIn_ready (rs := [1]) (by kernel_rfl) (by simp) ?_
      refine AllReadyIn.cons rfl (fun K hK => ?_) AllReadyIn.nil
      go_simp
      refine hK _ _ ?_
      clear hK K
      try simp only [Act.put, List.setIfInBounds_toArray, List.set_cons_zero, List.set_cons_succ]
      refine wpAnyIn_ready (rs := [2]) (by kernel_rfl) (by simp) ?_
      refine AllReadyIn.cons rfl (fun K hK => ?_) AllReadyIn.nil
      go_simp
      refine hK _ _ ?_
      clear hK K
      try simp only [Act.put, List.setIfInBounds_toArray, List.set_cons_zero, List.set_cons_succ]
      refine wpAnyIn_ready (rs := [3]) (by kernel_rfl) (by simp) ?_
      refine AllReadyIn.cons rfl (fun K hK => ?_) AllReadyIn.nil
      go_simp
      refine ⟨trivial, ?_⟩
      refine (CallsIn.inRound l' (callsIn_wide.2 HCE.out)).mono ?_
      rintro r w6 ⟨av6, cv6, rfl, hG6, hb6⟩
      have hv6 := (boxed_below HVD.out hb6).cell
      gi_wp2_with fail
      try simp only [Act.put, List.setIfInBounds_toArray, List.set_cons_zero, List.set_cons_succ]
      refine wpAnyIn_ready (rs := [4]) (by kernel_rfl) (by simp) ?_
      refine AllReadyIn.cons rfl (fun K hK => ?_) AllReadyIn.nil
      have hv7 := (boxed_below (boxed_below HVD.out hb6) (below_alloc w6 (.cells #[.slice av6 xr.s.layer.length cv6] 35))).cell
      go_simp
      refine hK _ _ ?_
      clear hK K
      try simp only [Act.put, List.setIfInBounds_toArray, List.set_cons_zero, List.set_cons_succ]
      refine wpAnyIn_ready (rs := [5]) (by kernel_rfl) (by simp) ?_
      refine AllReadyIn.cons (o := { dst := some 33, op := _, type := _, pos := _, after := _, guard := _ }) rfl (fun K hK => ?_) AllReadyIn.nil
      refine step_appIn (by rfl) (.tmp 28) (.tmp 32) 31 (by rfl) (w4.heap.size + 1) 35 i1 (.slice none 0 0) 1 24 Tryz.underlying31 ki kz0 kz1 kz2 rfl (by decide) (.slice va (layersOf pre).length vc) (layersOf pre).length (xs.map lyV) (by rfl) (HROW.out w6 hb6) ⟨w6.heap.size, 0, none⟩ 1 1 [lyV ⟨xr.s.layer, av6, cv6⟩] (by rfl) (by rfl) (cell_one_new _ _ _) (by simp [lyV, Value.oneCell']) ((layersOf pre).length + 1) rfl hm1 hm2 (by have h1 := hb6.size; have h2 : W.drew.heap.size = W.heap.size := rfl; rw [World.size_alloc]; omega) ?_
      intro av8 cv8 w8 ho8 hg8
      obtain ⟨hv8, hf8, hp8⟩ := HFIN.out w6 av6 cv6 hG6 hb6 av8 cv8 w8 ho8 hg8
      have HP := hide hp8
      refine hK _ _ ?_
      clear hK K ho8 hg8 hp8
      try simp only [Act.put, List.setIfInBounds_toArray, List.set_cons_zero, List.set_cons_succ]
      refine wpAnyIn_ready (rs := [6]) (by kernel_rfl) (by simp) ?_
      refine AllReadyIn.cons rfl (fun K hK => ?_) AllReadyIn.nil
      go_simp
      refine hK _ _ ?_
      clear hK K
      try simp only [Act.put, List.setIfInBounds_toArray, List.set_cons_zero, List.set_cons_succ]
      refine wpAnyIn_done (by kernel_rfl) ?_ _
      exact HP.out
    · go_simp
      refine hK _ _ ?_
      clear hK K
      try simp only [Act.put, List.setIfInBounds_toArray, List.set_cons_zero, List.set_cons_succ]
      refine wpAnyIn_ready (rs := [0, 2]) (by kernel_rfl) (by simp) ?_
      refine AllReadyIn.cons rfl (fun K hK => ?_) (AllReadyIn.cons rfl (fun K hK => ?_) AllReadyIn.nil)
      · go_simp
        refine hK _ _ ?_
        clear hK K
        try simp only [Act.put, List.setIfInBounds_toArray, List.set_cons_zero, List.set_cons_succ]
        refine wpAnyIn_ready (rs := [2]) (by kernel_rfl) (by simp) ?_
        refine AllReadyIn.cons rfl (fun K hK => ?_) AllReadyIn.nil
        go_simp
        refine hK _ _ ?_
        clear hK K
        try simp only [Act.put, List.setIfInBounds_toArray, List.set_cons_zero, List.set_cons_succ]
        refine wpAnyIn_ready (rs := [3]) (by kernel_rfl) (by simp) ?_
        refine AllReadyIn.cons rfl (fun K hK => ?_) AllReadyIn.nil
        go_simp
        refine ⟨trivial, ?_⟩
        refine (CallsIn.inRound l' (callsIn_wide.2 HCE.out)).mono ?_
        rintro r w6 ⟨av6, cv6, rfl, hG6, hb6⟩
        have hv6 := (boxed_below HVD.out hb6).cell
        gi_wp2_with fail
        try simp only [Act.put, List.setIfInBounds_toArray, List.set_cons_zero, List.set_cons_succ]
        refine wpAnyIn_ready (rs := [4]) (by kernel_rfl) (by simp) ?_
        refine AllReadyIn.cons rfl (fun K hK => ?_) AllReadyIn.nil
        have hv7 := (boxed_below (boxed_below HVD.out hb6) (below_alloc w6 (.cells #[.slice av6 xr.s.layer.length cv6] 35))).cell
        go_simp
        refine hK _ _ ?_
        clear hK K
        try simp only [Act.put, List.setIfInBounds_toArray, List.set_cons_zero, List.set_cons_succ]
        refine wpAnyIn_ready (rs := [5]) (by kernel_rfl) (by simp) ?_
        refine AllReadyIn.cons (o := { dst := some 33, op := _, type := _, pos := _, after := _, guard := _ }) rfl (fun K hK => ?_) AllReadyIn.nil
        refine step_appIn (by rfl) (.tmp 28) (.tmp 32) 31 (by rfl) (w4.heap.size + 1) 35 i1 (.slice none 0 0) 1 24 Tryz.underlying31 ki kz0 kz1 kz2 rfl (by decide) (.slice va (layersOf pre).length vc) (layersOf pre).length (xs.map lyV) (by rfl) (HROW.out w6 hb6) ⟨w6.heap.size, 0, none⟩ 1 1 [lyV ⟨xr.s.layer, av6, cv6⟩] (by rfl) (by rfl) (cell_one_new _ _ _) (by simp [lyV, Value.oneCell']) ((layersOf pre).length + 1) rfl hm1 hm2 (by have h1 := hb6.size; have h2 : W.drew.heap.size = W.heap.size := rfl; rw [World.size_alloc]; omega) ?_
        intro av8 cv8 w8 ho8 hg8
        obtain ⟨hv8, hf8, hp8⟩ := HFIN.out w6 av6 cv6 hG6 hb6 av8 cv8 w8 ho8 hg8
        have HP := hide hp8
        refine hK _ _ ?_
        clear hK K ho8 hg8 hp8
        try simp only [Act.put, List.setIfInBounds_toArray, List.set_cons_zero, List.set_cons_succ]
        refine wpAnyIn_ready (rs := [6]) (by kernel_rfl) (by simp) ?_
        refine AllReadyIn.cons rfl (fun K hK => ?_) AllReadyIn.nil
        go_simp
        refine hK _ _ ?_
        clear hK K
        try simp only [Act.put, List.setIfInBounds_toArray, List.set_cons_zero, List.set_cons_succ]
        refine wpAnyIn_done (by kernel_rfl) ?_ _
        exact HP.out
      · go_simp
        refine hK _ _ ?_
        clear hK K
        try simp only [Act.put, List.setIfInBounds_toArray, List.set_cons_zero, List.set_cons_succ]
        refine wpAnyIn_ready (rs := [0, 3]) (by kernel_rfl) (by simp) ?_
        refine AllReadyIn.cons rfl (fun K hK => ?_) (AllReadyIn.cons rfl (fun K hK => ?_) AllReadyIn.nil)
        · go_simp
          refine hK _ _ ?_
          clear hK K
          try simp only [Act.put, List.setIfInBounds_toArray, List.set_cons_zero, List.set_cons_succ]
          refine wpAnyIn_ready (rs := [3]) (by kernel_rfl) (by simp) ?_
          refine AllReadyIn.cons rfl (fun K hK => ?_) AllReadyIn.nil
          go_simp
          refine ⟨trivial, ?_⟩
          refine (CallsIn.inRound l' (callsIn_wide.2 HCE.out)).mono ?_
          rintro r w6 ⟨av6, cv6, rfl, hG6, hb6⟩
          have hv6 := (boxed_below HVD.out hb6).cell
          gi_wp2_with fail
          try simp only [Act.put, List.setIfInBounds_toArray, List.set_cons_zero, List.set_cons_succ]
          refine wpAnyIn_ready (rs := [4]) (by kernel_rfl) (by simp) ?_
          refine AllReadyIn.cons rfl (fun K hK => ?_) AllReadyIn.nil
          have hv7 := (boxed_below (boxed_below HVD.out hb6) (below_alloc w6 (.cells #[.slice av6 xr.s.layer.length cv6] 35))).cell
          go_simp
          refine hK _ _ ?_
          clear hK K
          try simp only [Act.put, List.setIfInBounds_toArray, List.set_cons_zero, List.set_cons_succ]
          refine wpAnyIn_ready (rs := [5]) (by kernel_rfl) (by simp) ?_
          refine AllReadyIn.cons (o := { dst := some 33, op := _, type := _, pos := _, after := _, guard := _ }) rfl (fun K hK => ?_) AllReadyIn.nil
          refine step_appIn (by rfl) (.tmp 28) (.tmp 32) 31 (by rfl) (w4.heap.size + 1) 35 i1 (.slice none 0 0) 1 24 Tryz.underlying31 ki kz0 kz1 kz2 rfl (by decide) (.slice va (layersOf pre).length vc) (layersOf pre).length (xs.map lyV) (by rfl) (HROW.out w6 hb6) ⟨w6.heap.size, 0, none⟩ 1 1 [lyV ⟨xr.s.layer, av6, cv6⟩] (by rfl) (by rfl) (cell_one_new _ _ _) (by simp [lyV, Value.oneCell']) ((layersOf pre).length + 1) rfl hm1 hm2 (by have h1 := hb6.size; have h2 : W.drew.heap.size = W.heap.size := rfl; rw [World.size_alloc]; omega) ?_
          intro av8 cv8 w8 ho8 hg8
          obtain ⟨hv8, hf8, hp8⟩ := HFIN.out w6 av6 cv6 hG6 hb6 av8 cv8 w8 ho8 hg8
          have HP := hide hp8
          refine hK _ _ ?_
          clear hK K ho8 hg8 hp8
          try simp only [Act.put, List.setIfInBounds_toArray, List.set_cons_zero, List.set_cons_succ]
          refine wpAnyIn_ready (rs := [6]) (by kernel_rfl) (by simp) ?_
          refine AllReadyIn.cons rfl (fun K hK => ?_) AllReadyIn.nil
          go_simp
          refine hK _ _ ?_
          clear hK K
          try simp only [Act.put, List.setIfInBounds_toArray, List.set_cons_zero, List.set_cons_succ]
          refine wpAnyIn_done (by kernel_rfl) ?_ _
          exact HP.out
        · go_simp
          refine ⟨trivial, ?_⟩
          refine (CallsIn.inRound l' (callsIn_wide.2 HCE.out)).mono ?_
          rintro r w6 ⟨av6, cv6, rfl, hG6, hb6⟩
          have hv6 := (boxed_below HVD.out hb6).cell
          gi_wp2_with fail
          try simp only [Act.put, List.setIfInBounds_toArray, List.set_cons_zero, List.set_cons_succ]
          refine wpAnyIn_ready (rs := [0, 4]) (by kernel_rfl) (by simp) ?_
          refine AllReadyIn.cons rfl (fun K hK => ?_) (AllReadyIn.cons rfl (fun K hK => ?_) AllReadyIn.nil)
          · go_simp
            refine hK _ _ ?_
            clear hK K
            try simp only [Act.put, List.setIfInBounds_toArray, List.set_cons_zero, List.set_cons_succ]
            refine wpAnyIn_ready (rs := [4]) (by kernel_rfl) (by simp) ?_
            refine AllReadyIn.cons rfl (fun K hK => ?_) AllReadyIn.nil
            have hv7 := (boxed_below (boxed_below HVD.out hb6) (below_alloc w6 (.cells #[.slice av6 xr.s.layer.length cv6] 35))).cell
            go_simp
            refine hK _ _ ?_
            clear hK K
            try simp only [Act.put, List.setIfInBounds_toArray, List.set_cons_zero, List.set_cons_succ]
            refine wpAnyIn_ready (rs := [5]) (by kernel_rfl) (by simp) ?_
            refine AllReadyIn.cons (o := { dst := some 33, op := _, type := _, pos := _, after := _, guard := _ }) rfl (fun K hK => ?_) AllReadyIn.nil
            refine step_appIn (by rfl) (.tmp 28) (.tmp 32) 31 (by rfl) (w4.heap.size + 1) 35 i1 (.slice none 0 0) 1 24 Tryz.underlying31 ki kz0 kz1 kz2 rfl (by decide) (.slice va (layersOf pre).length vc) (layersOf pre).length (xs.map lyV) (by rfl) (HROW.out w6 hb6) ⟨w6.heap.size, 0, none⟩ 1 1 [lyV ⟨xr.s.layer, av6, cv6⟩] (by rfl) (by rfl) (cell_one_new _ _ _) (by simp [lyV, Value.oneCell']) ((layersOf pre).length + 1) rfl hm1 hm2 (by have h1 := hb6.size; have h2 : W.drew.heap.size = W.heap.size := rfl; rw [World.size_alloc]; omega) ?_
            intro av8 cv8 w8 ho8 hg8
            obtain ⟨hv8, hf8, hp8⟩ := HFIN.out w6 av6 cv6 hG6 hb6 av8 cv8 w8 ho8 hg8
            have HP := hide hp8
            refine hK _ _ ?_
            clear hK K ho8 hg8 hp8
            try simp only [Act.put, List.setIfInBounds_toArray, List.set_cons_zero, List.set_cons_succ]
            refine wpAnyIn_ready (rs := [6]) (by kernel_rfl) (by simp) ?_
            refine AllReadyIn.cons rfl (fun K hK => ?_) AllReadyIn.nil
            go_simp
            refine hK _ _ ?_
            clear hK K
            try simp only [Act.put, List.setIfInBounds_toArray, List.set_cons_zero, List.set_cons_succ]
            refine wpAnyIn_done (by kernel_rfl) ?_ _
            exact HP.out
          · have hv7 := (boxed_below (boxed_below HVD.out hb6) (below_alloc w6 (.cells #[.slice av6 xr.s.layer.length cv6] 35))).cell
            go_simp
            refine hK _ _ ?_
            clear hK K
            try simp only [Act.put, List.setIfInBounds_toArray, List.set_cons_zero, List.set_cons_succ]
            refine wpAnyIn_ready (rs := [0]) (by kernel_rfl) (by simp) ?_
            refine AllReadyIn.cons rfl (fun K hK => ?_) AllReadyIn.nil
            go_simp
            refine hK _ _ ?_
            clear hK K
            try simp only [Act.put, List.setIfInBounds_toArray, List.set_cons_zero, List.set_cons_succ]
            refine wpAnyIn_ready (rs := [5]) (by kernel_rfl) (by simp) ?_
            refine AllReadyIn.cons (o := { dst := some 33, op := _, type := _, pos := _, after := _, guard := _ }) rfl (fun K hK => ?_) AllReadyIn.nil
            refine step_appIn (by rfl) (.tmp 28) (.tmp 32) 31 (by rfl) (w4.heap.size + 1) 35 i1 (.slice none 0 0) 1 24 Tryz.underlying31 ki kz0 kz1 kz2 rfl (by decide) (.slice va (layersOf pre).length vc) (layersOf pre).length (xs.map lyV) (by rfl) (HROW.out w6 hb6) ⟨w6.heap.size, 0, none⟩ 1 1 [lyV ⟨xr.s.layer, av6, cv6⟩] (by rfl) (by rfl) (cell_one_new _ _ _) (by simp [lyV, Value.oneCell']) ((layersOf pre).length + 1) rfl hm1 hm2 (by have h1 := hb6.size; have h2 : W.drew.heap.size = W.heap.size := rfl; rw [World.size_alloc]; omega) ?_
            intro av8 cv8 w8 ho8 hg8
            obtain ⟨hv8, hf8, hp8⟩ := HFIN.out w6 av6 cv6 hG6 hb6 av8 cv8 w8 ho8 hg8
            have HP := hide hp8
            refine hK _ _ ?_
            clear hK K ho8 hg8 hp8
            try simp only [Act.put, List.setIfInBounds_toArray, List.set_cons_zero, List.set_cons_succ]
            refine wpAnyIn_ready (rs := [6]) (by kernel_rfl) (by simp) ?_
            refine AllReadyIn.cons rfl (fun K hK => ?_) AllReadyIn.nil
            go_simp
            refine hK _ _ ?_
            clear hK K
            try simp only [Act.put, List.setIfInBounds_toArray, List.set_cons_zero, List.set_cons_succ]
            refine wpAnyIn_done (by kernel_rfl) ?_ _
            exact HP.out
  case done =>
    rintro D ys W hD hys ⟨⟨⟨v, hv, hLL⟩, hX, hsz⟩, hB⟩ hK
    rw [layersOf_all hys, HREV.out] at hLL
    obtain ⟨va, vc, rfl⟩ := hLL.shape
    have hv0 := hv.cell
    have HX := hide hX
    have HB' := hide hB
    have HK := hide hK
    have HLL := hide hLL
    clear hX hB hK hLL hys hv
    obtain ⟨⟨q0, q1⟩, q2, q3⟩ := HX.out
    gi_wp2_with fail
    obtain ⟨k1, k2, k3⟩ := end_box HX.out.1 HK.out (.int .i64 0) (.slice va (chainS l e).length vc)
    refine ⟨by simp, .inl ⟨_, _, rfl, run_takeDeferred k1, ?_⟩⟩
    have hcap : (chainS l e).length ≤ vc := by
      obtain ⟨xs, -, h2, -⟩ := HLL.out
      rcases h2.2 with ⟨-, h0⟩ | ⟨g', cap, cur, h9, -, -, h8, -⟩
      · omega
      · simp only [Value.slice.injEq] at h9
        omega
    refine ⟨.agg #[.int .i64 0, .slice va (chainS l e).length vc], by simp [results, Tryz.results11, go_sem, k2, k3], va, vc, rfl, ?_, hcap, ?_⟩
    · exact LL.rd ((HLL.out.kept (Kept.two W w.heap.size 0 1 _ _) (fun b hb e => by omega)).grown (grownBy_putObj' _ _ _) (fun r e => by cases e; exact ⟨_, k1, rfl⟩))
    · exact ((HB'.out.setCell (p := ⟨w.heap.size, 0, none⟩) (Nat.le_refl _) _).setCell (p := ⟨w.heap.size, 1, none⟩) (Nat.le_refl _) _).trans (belowK_b (w := w) (Nat.le_refl _) _ D _ _ (by omega) k1 rfl rfl)
  case stop =>
    rintro D c' pre W hD hpre hc hK
    exact hc.elim
end Go.Proofs.YteegkblkfdnfiaaGreat

namespace Go.Proofs.YteegkblkfdnfiaaGreat
open Go.RowKit Go.Maps
set_option linter.unusedVariables false
attribute [local go_sem ↓] Go.wp_at_zero Go.wp_at_succ

theorem RdL.front {w : World} {a : Option Addr} {ls : List (List En)} {U : List En} (h : RdL w a (ls ++ [U])) : RdL w a ls := by
  intro hz
  obtain ⟨b, off, A, C, e, hb, hc⟩ := h (by simp)
  refine ⟨b, off, A, C, e, hb, fun i es hi => hc i es ?_⟩
  rw [List.getElem?_append_left (List.getElem?_eq_some_iff.1 hi).1]
  exact hi
set_option maxRecDepth 100000 in
set_option maxHeartbeats 1600000 in
theorem deeds1_any (a : Option Addr) (c n : Nat) (ls : List (List En)) (u : Option Addr) (uc m : Nat) (U : List En) (p : Bs) (zs : List Int) (dv : Value) (w : World) (h : RdL w a ls) (hn : n = ls.length) (hl : ls.length ≤ 1000000) (hs : SmallL ls) (hU : RdE w u U) (hm : m = U.length) (hUl : U.length ≤ 1000000) (hUs : SmallE U) (hpl : p.length ≤ 1048576) :
    Calls Tryz.prog 70 #[.slice a n c, .slice u m uc, .string (str p), dv] w fun r w' => ∃ q rep V, DeedOf ls U p zs 2 q rep V ∧ ResG q rep V w r w' := by
  subst hn
  subst hm
  have X0 := hide (Box3.new w (.int .i64 0) (.int .i64 0) (.slice none 0 0) 69)
  have B0 := hide (below_alloc w (.cells #[.int .i64 0, .int .i64 0, .slice none 0 0] 69))
  have HC := hide (implMakeOver_any a c ls.length ls u uc U.length U p _ (h.below B0.out) rfl hl hs (hU.below B0.out) rfl hUl hUs hpl)
  clear h hs hU hUs
  go_enter Tryz.func70, Tryz.ntmps70
  go_wp2_with fail
  refine HC.out.mono ?_
  rintro r w1 ⟨q, rep, V, hof, av, cv, rfl, hG, hb1⟩
  have G1 := hide hG
  have HOF := hide hof
  have B1 := hide (below_next B0.out hb1)
  have hlt : w.heap.size < (w.alloc (.cells #[.int .i64 0, .int .i64 0, .slice none 0 0] 69)).heap.size := X0.out.lt
  obtain ⟨⟨t0, t1, t2⟩, t3, t4, t5⟩ := X0.out.below hb1
  clear hG hb1 hof
  go_wp2_with fail
  exact bodyPost_ret (v := .agg #[.int .i64 q, .int .i64 rep, .slice av V.length cv]) (by simp [results, Tryz.results70, go_sem, t0, t1, t2]) rfl ⟨q, rep, V, ⟨fun e => absurd e (by decide), fun _ => HOF.out, fun e => absurd e (by decide)⟩, ResG.of hlt (Nat.le_refl _) rfl G1.out B1.out⟩
set_option maxRecDepth 100000 in
set_option maxHeartbeats 1600000 in
theorem deeds2_any (a : Option Addr) (c n : Nat) (ls : List (List En)) (u : Option Addr) (uc m : Nat) (U : List En) (p : Bs) (zs : List Int) (dv : Value) (w : World) (h : RdL w a ls) (hn : n = ls.length) (hl : ls.length ≤ 1000000) (hs : SmallL ls) (hU : RdE w u U) (hm : m = U.length) (hUl : U.length ≤ 1000000) (hUs : SmallE U) (hpl : p.length ≤ 1048576) :
    Calls Tryz.prog 72 #[.slice a n c, .slice u m uc, .string (str p), dv] w fun r w' => ∃ q rep V, DeedOf ls U p zs 3 q rep V ∧ ResG q rep V w r w' := by
  subst hn
  subst hm
  have X0 := hide (Box3.new w (.int .i64 0) (.int .i64 0) (.slice none 0 0) 69)
  have B0 := hide (below_alloc w (.cells #[.int .i64 0, .int .i64 0, .slice none 0 0] 69))
  have HC := hide (implRemoveOver_any a c ls.length ls u uc U.length U p _ (h.below B0.out) rfl hl hs (hU.below B0.out) rfl hUl hUs hpl)
  clear h hs hU hUs
  go_enter Tryz.func72, Tryz.ntmps72
  go_wp2_with fail
  refine HC.out.mono ?_
  rintro r w1 ⟨q, rep, V, hof, av, cv, rfl, hG, hb1⟩
  have G1 := hide hG
  have HOF := hide hof
  have B1 := hide (below_next B0.out hb1)
  have hlt : w.heap.size < (w.alloc (.cells #[.int .i64 0, .int .i64 0, .slice none 0 0] 69)).heap.size := X0.out.lt
  obtain ⟨⟨t0, t1, t2⟩, t3, t4, t5⟩ := X0.out.below hb1
  clear hG hb1 hof
  go_wp2_with fail
  exact bodyPost_ret (v := .agg #[.int .i64 q, .int .i64 rep, .slice av V.length cv]) (by simp [results, Tryz.results72, go_sem, t0, t1, t2]) rfl ⟨q, rep, V, ⟨fun e => absurd e (by decide), fun e => absurd e (by decide), fun _ => HOF.out⟩, ResG.of hlt (Nat.le_refl _) rfl G1.out B1.out⟩
theorem deeds0_any (a : Option Addr) (c n : Nat) (ls : List (List En)) (u : Option Addr) (uc m : Nat) (U : List En) (p : Bs) (zs : List Int) (d : Option Addr) (dn dc : Nat) (w : World) (h : RdL w a ls) (hn : n = ls.length) (hl : ls.length ≤ 1000000) (hs : SmallL ls) (hU : RdE w u U) (hm : m = U.length) (hUl : U.length ≤ 1000000) (hUs : SmallE U) (hpl : p.length ≤ 1048576) (hd : Reads .u8 w d zs) (hdn : dn = zs.length) (hu8 : U8 zs) (hdc : zs.length ≤ dc) (hdl : zs.length ≤ 1048576) :
    Calls Tryz.prog 69 #[.slice a n c, .slice u m uc, .string (str p), .slice d dn dc] w fun r w' => ∃ q rep V, DeedOf ls U p zs 1 q rep V ∧ ResG q rep V w r w' :=
  (implWriteOver_any a c n ls u uc m U p zs d dn dc w h hn hl hs hU hm hUl hUs hpl hd hdn hu8 hdc hdl).mono fun r w' ⟨q, rep, V, h1, h2⟩ => ⟨q, rep, V, ⟨fun _ => h1, fun e => absurd e (by decide), fun e => absurd e (by decide)⟩, h2⟩
set_option maxRecDepth 100000 in
set_option maxHeartbeats 1600000 in
theorem or_any (b : Nat) (q r : Int) (w : World) (h0 : w.cell? ⟨b, 0, none⟩ = some (.int .i64 q)) (h1 : w.cell? ⟨b, 1, none⟩ = some (.int .i64 r)) :
    Calls Tryz.prog 33 #[.slice (some ⟨b, 0, none⟩) 2 2] w fun e w' => e = .returned (.int .i64 (orI q r)) ∧ w' = w := by
  obtain ⟨F, hF⟩ : ∃ F : Int, F = orI q r := ⟨_, rfl⟩
  rw [← hF]
  have HF := hide hF
  clear hF
  go_enter Tryz.func33, Tryz.ntmps33
  go_wp2_with fail
  go_loopw [8] (fun i wr => ∃ k : Nat, k ≤ 2 ∧ i = .int .i64 k ∧ wr = w ∧ Hid ((1 ≤ k → q = 0) ∧ (2 ≤ k → r = 0))) (fun i _ => 2 - (intOf i).toNat)
  case atStart => exact ⟨0, by decide, rfl, rfl, hide ⟨fun h => by omega, fun h => by omega⟩⟩
  case round =>
    obtain ⟨k, hk, rfl, hw, HK⟩ := hrel
    subst hw
    have h3 : k = 0 ∨ k = 1 ∨ k = 2 := by omega
    rcases h3 with rfl | rfl | rfl
    · by_cases hq : q = 0
      · subst hq
        go_wp2_with fail
        go_roundw
        case rel => exact ⟨1, by decide, by go_num, (by first | rfl | trivial), hide (by constructor <;> (intros; first | rfl | omega | trivial))⟩
        case measure => simp [intOf]
      · have hq2 : (q != 0) = true := by simp; exact hq
        have HO := hide (show F = q by rw [HF.out, orI, if_neg hq])
        clear hq
        go_wp2_with fail
        go_ret
        exact ⟨ret_int HO.out.symm, rfl⟩
    · have hq : q = 0 := HK.out.1 (by decide)
      by_cases hr : r = 0
      · subst hr
        go_wp2_with fail
        go_roundw
        case rel => exact ⟨2, by decide, by go_num, (by first | rfl | trivial), hide (by constructor <;> (intros; first | exact hq | rfl | trivial))⟩
        case measure => simp [intOf]
      · have hr2 : (r != 0) = true := by simp; exact hr
        have HO := hide (show F = r by rw [HF.out, orI, if_pos hq])
        clear hr hq
        go_wp2_with fail
        go_ret
        exact ⟨ret_int HO.out.symm, rfl⟩
    · have HO := hide (show F = 0 by rw [HF.out, orI, if_pos (HK.out.1 (by decide)), HK.out.2 (by decide)])
      go_wp2_with fail
      go_ret
      exact ⟨ret_int HO.out.symm, rfl⟩
set_option maxHeartbeats 800000 in
theorem deeds_any (w : World) :
    Calls Tryz.prog 30 #[] w fun r w' => ∃ t, r = .returned (.slice (some ⟨w.heap.size, 0, none⟩) 3 3) ∧ w' = w.alloc (.cells #[.func (.func 69) #[] #[], .func (.func 70) #[] #[], .func (.func 72) #[] #[]] t) := by
  go_enter Tryz.func30, Tryz.ntmps30
  go_wp2
  go_ret
  exact ⟨_, rfl, rfl⟩
end Go.Proofs.YteegkblkfdnfiaaGreat

