/-
  The program's map of chunks by their digest: what it holds.
-/
import Derived.Test.YtdebojhginiihaaFaultC
import Derived.Maps.OwnSet
namespace Go.Proofs.Ytdebojhginiihaa
open Go.RowKit Go.Maps
set_option linter.unusedVariables false

abbrev Ch := Int × List Int
/-- The chunks of a list, as pairs. -/
def lst (D : Nat → Int) (P : Nat → List Int) (n : Nat) : List Ch := (List.range n).map fun i => (D i, P i)
theorem lst_succ (D : Nat → Int) (P : Nat → List Int) (n : Nat) : lst D P (n + 1) = lst D P n ++ [(D n, P n)] := by simp [lst, List.range_succ]
theorem lst_length (D : Nat → Int) (P : Nat → List Int) (n : Nat) : (lst D P n).length = n := by simp [lst]
theorem lst_mem {D : Nat → Int} {P : Nat → List Int} {n : Nat} {p : Ch} : p ∈ lst D P n ↔ ∃ i, i < n ∧ p = (D i, P i) := by
  simp [lst, eq_comm]
theorem lst_key {D : Nat → Int} {P : Nat → List Int} {n : Nat} {d : Int} : d ∈ (lst D P n).map Prod.fst ↔ ∃ i, i < n ∧ D i = d := by
  simp [lst]

/-- How an element of the map reads: as it is. -/
def RV (v : Value) : Option (DataW Value × List MemPlace) := some (.held v, [])
/-- A chunk as a value. -/
def chv (d : Int) (a : Option Addr) (n c : Nat) : Value := .agg #[.int .i64 d, .slice a n c]

theorem law64 : Keyed Try.prog 2 := int_keyed Try.underlying2
theorem zeroCh (w : World) : (zeroValue 53).run Try.prog w = .ok (.agg #[.int .i64 0, .slice none 0 0]) w := by kernel_rfl
theorem i64_wf {d : Int} (h0 : 0 ≤ d) (h1 : d ≤ 4294967295) : (Lit.int .i64 d).wf = true := by
  simp [Lit.wf, IntKind.min, IntKind.max, IntKind.signed, IntKind.bits]; omega
theorem key64 {d : Int} (h : (Lit.int .i64 d).wf = true) : keyOf Try.prog 2 (.int .i64 d) = some (.int .i64 d) := keyOf_int_mk Try.underlying2 h

/-- Block b is a map that holds the chunks L, each at its digest; their bytes are read, in blocks below T. -/
def Holds (w : World) (b N : Nat) (L : List Ch) (T : Nat) : Prop :=
  ∃ (Dt : DataW Value) (A : Int → Option Addr) (C : Int → Nat), w.ownsMap Try.prog 2 RV b N Dt ∧ (∀ k, has Dt (.int .i64 k) = decide (k ∈ L.map Prod.fst)) ∧
    (∀ p ∈ L, (∀ z, Dt.atKey (.int .i64 p.1) z = .held (chv p.1 (A p.1) p.2.length (C p.1))) ∧ Reads .u8 w (A p.1) p.2 ∧ ∀ x, A p.1 = some x → x.block < T) ∧ size Dt = L.length ∧ (L.map Prod.fst).Nodup

theorem Holds.lt {w : World} {b N : Nat} {L : List Ch} {T : Nat} (h : Holds w b N L T) : b < w.heap.size := by
  obtain ⟨Dt, A, C, h1, _⟩ := h
  exact h1.lt

theorem ownsMap_kept {S : Nat → Prop} {w w' : World} {b N : Nat} {Dt : DataW Value} (h : w.ownsMap Try.prog 2 RV b N Dt) (hk : Kept S w w') (hb : ¬ S b) : w'.ownsMap Try.prog 2 RV b N Dt := by
  have hlt := h.lt
  obtain ⟨es, clock, hh, r⟩ := h
  exact ⟨es, clock, (hk.block b hlt hb).trans hh, r⟩
theorem ownsMap_cell {w : World} {b N : Nat} {Dt : DataW Value} (h : w.ownsMap Try.prog 2 RV b N Dt) {b' o : Nat} {v : Value} (hc : w.cell? ⟨b', o, none⟩ = some v) : b' ≠ b := by
  obtain ⟨es, clock, hh, r⟩ := h
  intro e
  subst e
  simp [World.cell?, hh] at hc
theorem Reads.far {w : World} {b N : Nat} {Dt : DataW Value} (h : w.ownsMap Try.prog 2 RV b N Dt) {a : Option Addr} {zs : List Int} (hr : Reads .u8 w a zs) : zs ≠ [] → ∀ x, a = some x → x.block ≠ b := by
  intro hz x hx
  obtain ⟨b1, off, e, hb, hc⟩ := hr hz
  subst e
  cases hx
  have h0 : 0 < zs.length := List.length_pos_iff.2 hz
  exact ownsMap_cell h (hc 0 h0)

theorem Holds.kept {S : Nat → Prop} {w w' : World} {b N : Nat} {L : List Ch} {T : Nat} (h : Holds w b N L T) (hk : Kept S w w') (hb : ¬ S b) (hS : ∀ x, S x → T ≤ x) : Holds w' b N L T := by
  obtain ⟨Dt, A, C, h1, h2, h3, h4⟩ := h
  refine ⟨Dt, A, C, ownsMap_kept h1 hk hb, h2, fun p hp => ⟨(h3 p hp).1, (h3 p hp).2.1.kept hk (fun hz x hx hs => ?_), (h3 p hp).2.2⟩, h4⟩
  have h5 := hS _ hs
  have h6 := (h3 p hp).2.2 x hx
  omega
theorem Holds.wide {w : World} {b N : Nat} {L : List Ch} {T T' : Nat} (h : Holds w b N L T) (hT : T ≤ T') : Holds w b N L T' := by
  obtain ⟨Dt, A, C, h1, h2, h3, h4⟩ := h
  exact ⟨Dt, A, C, h1, h2, fun p hp => ⟨(h3 p hp).1, (h3 p hp).2.1, fun x hx => Nat.lt_of_lt_of_le ((h3 p hp).2.2 x hx) hT⟩, h4⟩
theorem Holds.below {w w' : World} {b N : Nat} {L : List Ch} {T : Nat} (h : Holds w b N L T) (hk : Below w.heap.size w w') : Holds w' b N L T :=
  h.kept (S := fun _ => False) (Kept.of_below hk) id (fun _ h => h.elim)

theorem Kept.of_grown {w w' : World} {b : Nat} (h : w.grownBy w' (some b)) : Kept (fun x => x = b) w w' :=
  ⟨h.os, h.tape, h.output, h.size, fun k hk hn => h.block k hk (fun e => hn (by simpa using e))⟩

theorem Holds.made (w : World) (T : Nat) : Holds (w.alloc (.map #[] 0)) w.heap.size 0 [] T :=
  ⟨.map [], fun _ => none, fun _ => 0, World.ownsMap_made _ _ _ _, fun k => by simp [has], fun p hp => by simp at hp, rfl, List.nodup_nil⟩

theorem isKey64 (d : Int) : WideAt.IsKeyLit (.int .i64 d) := trivial

/-- A chunk of a new digest is stored. -/
theorem Holds.put {w : World} {b N : Nat} {L : List Ch} {d : Int} {zs : List Int} {a : Option Addr} {c T : Nat} (h : Holds w b N L T) (hd : d ∉ L.map Prod.fst) (hr : Reads .u8 w a zs) (hT : ∀ x, a = some x → x.block < T) :
    ∃ Dt, w.ownsMap Try.prog 2 RV b N Dt ∧ ∀ w', w'.ownsMap Try.prog 2 RV b (N + 1) (Dt.put (.int .i64 d) (.held (chv d a zs.length c))) → w.grownBy w' (some b) → Holds w' b (N + 1) (L ++ [(d, zs)]) T := by
  obtain ⟨Dt, A, C, h1, h2, h3, h4, h5⟩ := h
  refine ⟨Dt, h1, fun w' ho hg => ?_⟩
  have hk := Kept.of_grown hg
  have hkeep : ∀ {x : Option Addr} {ys : List Int}, Reads .u8 w x ys → Reads .u8 w' x ys := fun hx => hx.kept hk (fun hz y hy e => Reads.far h1 hx hz y hy e)
  have hne : ∀ p ∈ L, p.1 ≠ d := fun p hp e => hd (by rw [← e]; exact List.mem_map_of_mem hp)
  refine ⟨_, fun k => if k = d then a else A k, fun k => if k = d then c else C k, ho, fun k => ?_, fun p hp => ?_, ?_, ?_⟩
  · by_cases e : k = d
    · subst e
      rw [has_put_same h1.isMap (isKey64 _)]
      simp
    · rw [has_put_other (by simpa using e), h2 k]
      simp [e]
  · rcases List.mem_append.1 hp with hp | hp
    · have e := hne p hp
      simp only [if_neg e]
      exact ⟨fun z => by rw [atKey_put_other (by simpa using e)]; exact (h3 p hp).1 z, hkeep (h3 p hp).2.1, (h3 p hp).2.2⟩
    · simp at hp
      subst hp
      simp only [if_true]
      exact ⟨fun z => atKey_put_same h1.isMap (isKey64 _) _ _, hkeep hr, hT⟩
  · rw [size_put (h1.tidy law64), h2 d, h4]
    simp [hd]
  · rw [List.map_append, List.nodup_append]
    refine ⟨h5, by simp, fun x hx y hy => ?_⟩
    simp at hy
    subst hy
    intro e
    subst e
    exact hd hx

/-- A look-up that finds. -/
theorem Holds.yes {w : World} {b N : Nat} {L : List Ch} {d : Int} {zs : List Int} {T : Nat} (h : Holds w b N L T) (hp : (d, zs) ∈ L) (hw : (Lit.int .i64 d).wf = true) (t : TypeId) (ht : Try.prog.underlying t = some (.map 2 53)) :
    ∃ a c, (∀ k : Bool, (Instr.lookup t (.map (some b)) (.int .i64 d) k).run Try.prog w = .ok (if k then .tuple #[chv d a zs.length c, .bool true] else chv d a zs.length c) w) ∧ Reads .u8 w a zs ∧ ∀ x, a = some x → x.block < T := by
  obtain ⟨Dt, A, C, h1, h2, h3, h4, h5⟩ := h
  have hm : d ∈ L.map Prod.fst := List.mem_map_of_mem (f := Prod.fst) hp
  refine ⟨A d, C d, fun k => ?_, (h3 _ hp).2⟩
  cases k with
  | true =>
    obtain ⟨v, ps, hrun, hv⟩ := h1.look_ok law64 ht (zeroCh w) (zd := .held (.agg #[.int .i64 0, .slice none 0 0])) (zp := []) rfl (key64 hw)
    simp only [RV, Option.some.injEq, Prod.mk.injEq, (h3 _ hp).1] at hv
    have e := hv.1
    simp only [DataW.held.injEq] at e
    rw [hrun, h2 d]
    simp [hm, e]
  | false =>
    obtain ⟨v, ps, hrun, hv⟩ := h1.lookup law64 ht (zeroCh w) (zd := .held (.agg #[.int .i64 0, .slice none 0 0])) (zp := []) rfl (key64 hw)
    simp only [RV, Option.some.injEq, Prod.mk.injEq, (h3 _ hp).1] at hv
    have e := hv.1
    simp only [DataW.held.injEq] at e
    rw [hrun]
    simp [e]
/-- A look-up that does not. -/
theorem Holds.no {w : World} {b N : Nat} {L : List Ch} {d : Int} {T : Nat} (h : Holds w b N L T) (hp : d ∉ L.map Prod.fst) (hw : (Lit.int .i64 d).wf = true) (t : TypeId) (ht : Try.prog.underlying t = some (.map 2 53)) :
    (Instr.lookup t (.map (some b)) (.int .i64 d) true).run Try.prog w = .ok (.tuple #[.agg #[.int .i64 0, .slice none 0 0], .bool false]) w := by
  obtain ⟨Dt, A, C, h1, h2, h3, h4, h5⟩ := h
  obtain ⟨v, ps, hrun, hv⟩ := h1.look_ok law64 ht (zeroCh w) (zd := .held (.agg #[.int .i64 0, .slice none 0 0])) (zp := []) rfl (key64 hw)
  have hh : has Dt (.int .i64 d) = false := by rw [h2 d]; simpa using hp
  rw [atKey_of_not_has hh] at hv
  simp only [RV, Option.some.injEq, Prod.mk.injEq] at hv
  have e := hv.1
  simp only [DataW.held.injEq] at e
  rw [hrun, hh, e]

/-- A look-up at the operation, its run known. -/
theorem wpList_look {P : Program} {w : World} {ops : Array Oper} {rest : List Oper} {o : Oper} {a : Act} {Q : Exit → Act → World → Prop} (hg : o.guard = none) (m x : Operand) (t : TypeId) (c : Bool) (hop : o.op = Op.lookup t m x c)
    (vm vx v : Value) (hm : a.eval m = vm) (hx : a.eval x = vx) (hrun : (Instr.lookup t vm vx c).run P w = .ok v w) (h : wpList P ops Q rest (a.put o.dst v) w) : wpList P ops Q (o :: rest) a w := by
  refine wpList_plain hg fun K' hK' => ?_
  unfold Oper.wp
  simp [execOp, hop, hm, hx, hrun, Result.andThen]
  exact hK' _ _ h

/-- append(out, x), the world's size spelt otherwise. -/
theorem wpList_append_at {P : Program} {wr : World} {news : Array Value} {ops : Array Oper} {rest : List Oper} {o : Oper} {a : Act} {Q : Exit → Act → World → Prop} (hgd : o.guard = none) (s x : Operand) (t : TypeId)
    (ho : o.op = .call { callee := .builtin .append, args := #[s, x], argTypes := #[t, t] })
    (base : Nat) (e : TypeId) (i : TypeInfo) (z : Value) (size bytes : Nat) (ht : P.underlying t = some (.slice e)) (hi : P.info? e = some i) (hz : i.zero = some z)
    (hsize : i.size = size) (hby : i.bytes = bytes) (hzs : z.cells.size = size) (hsz : 0 < size)
    (v : Value) (n : Nat) (xs : List Value) (hs : a.eval s = v) (hown : wr.ownsRow base e size v n xs) (H : Nat) (hH : wr.heap.size = H)
    (hx : a.eval x = .slice (some ⟨H, 0, none⟩) 1 1) (hl : news.size = size) (h1 : ∀ u ∈ news.toList, u.oneCell' = true)
    (h63 : n + 1 ≤ maxLen) (hbytes : (n + 1) * bytes ≤ 140737488355328) (hbase : base ≤ wr.heap.size)
    (h : ∀ v' w', w'.ownsRow base e size v' (n + 1) (xs ++ news.toList) → Kept (fun b => v.ownBlock = some b) wr w' → wpList P ops Q rest (a.put o.dst v') w') :
    wpList P ops Q (o :: rest) a (wr.alloc (.cells news e)) := by
  subst hH
  exact wpList_append_one hgd s x t ho base e i z size bytes ht hi hz hsize hby hzs hsz v n xs hs hown hx hl h1 h63 hbytes hbase h

end Go.Proofs.Ytdebojhginiihaa
