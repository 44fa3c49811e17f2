/-
  The program's map of entries by layer and path: what it holds.
-/
import Derived.Test.YtmpojjlpopimfaaGreatTreA
import Derived.Maps.OwnSet
import Derived.DeepKeys5
namespace Go.Proofs.YtmpojjlpopimfaaGreat
open Go.RowKit Go.Maps
set_option linter.unusedVariables false
attribute [local go_sem ↓] Go.wp_at_zero Go.wp_at_succ

theorem seeLaidOut : laidOutB Tryz.prog = true := by kernel_rfl
theorem spotLaw : Keyed Tryz.prog 107 := Keyed.of_law (deep_law_gate seeLaidOut (by decide +kernel) (by decide +kernel) (by kernel_rfl) (by kernel_rfl))
/-- A spot as a value, and as a key. -/
def spotV (i : Nat) (p : Bs) : Value := .agg #[.int .i64 i, .string (str p)]
def spotK (i : Nat) (p : Bs) : Lit := .string (keyBytes [.int .i64 i, .string (str p).data.toList])
theorem spotType : Tryz.prog.keyType 107 = true := by kernel_rfl
theorem spotCells : Tryz.prog.cellsOf 107 = 2 := by kernel_rfl
theorem intCells : Tryz.prog.cellsOf 3 = 1 := by kernel_rfl
theorem strCells : Tryz.prog.cellsOf 9 = 1 := by kernel_rfl
theorem nTypes : ∃ m, Tryz.prog.types.size + 1 = m + 1 + 1 := ⟨Tryz.prog.types.size - 1, by have : 1 ≤ Tryz.prog.types.size := (by decide +kernel); omega⟩
theorem i64_nat {i : Nat} (h : i ≤ 100) : (Lit.int .i64 (i : Int)).wf = true := by
  simp [Lit.wf, IntKind.min, IntKind.max, IntKind.signed, IntKind.bits]; omega
theorem spot_key {i : Nat} {p : Bs} (hi : i ≤ 100) (hp : p.length ≤ 1048576) : keyOf Tryz.prog 107 (spotV i p) = some (spotK i p) := by
  have hs : (str p).size ≤ maxLen := by rw [str_size]; unfold maxLen; omega
  have hw := i64_nat hi
  obtain ⟨m, hm⟩ := nTypes
  unfold keyOf spotV spotK
  rw [Tryz.underlying107]
  simp only [spotType, Value.formed, Tryz.underlying107, spotCells, Value.cells]
  rw [hm]
  simp [Program.keyLits, Tryz.underlying107, spotCells, Tryz.underlying3, Tryz.underlying9, intCells, strCells, hs, hw]
theorem spotV_inj {i j : Nat} {p q : Bs} (h : spotV i p = spotV j q) : i = j ∧ p = q := by
  unfold spotV at h
  simp only [Value.agg.injEq, Array.mk.injEq, List.cons.injEq, Value.int.injEq, Value.string.injEq, true_and, and_true] at h
  refine ⟨by omega, ?_⟩
  have := congrArg (fun s : ByteArray => s.data.toList) h.2
  simpa [str_data] using this
theorem spotK_inj {i j : Nat} {p q : Bs} (hi : i ≤ 100) (hj : j ≤ 100) (hp : p.length ≤ 1048576) (hq : q.length ≤ 1048576) (h : spotK i p = spotK j q) : i = j ∧ p = q := by
  have h1 := spot_key hi hp
  have h2 := spot_key hj hq
  rw [← h] at h2
  exact spotV_inj (spotLaw.inj h1 h2)

/-- How an element of the map reads: as it is. -/
def RVs (v : Value) : Option (DataW Value × List MemPlace) := some (.held v, [])
/-- An item as a value. -/
def itV (e : En) (a : Option Addr) (c : Nat) : Value := .agg #[.int .i64 e.size, .slice a e.chunks.length c, .string (str e.path), .int .i64 e.kind]
theorem zeroIt (w : World) : (zeroValue 85).run Tryz.prog w = .ok (.agg #[.int .i64 0, .slice none 0 0, .string ⟨#[]⟩, .int .i64 0]) w := by kernel_rfl

/-- Block b is a map that has the items S tells, each at its spot; their digests are read in w0. -/
def SeeM (w0 w : World) (b N : Nat) (S : Nat → Bs → Option En) : Prop :=
  ∃ (Dt : DataW Value) (A : Nat → Bs → Option Addr) (C : Nat → Bs → Nat), w.ownsMap Tryz.prog 107 RVs b N Dt ∧
    (∀ i p, i ≤ 100 → p.length ≤ 1048576 → has Dt (spotK i p) = (S i p).isSome) ∧
    (∀ i p e, i ≤ 100 → p.length ≤ 1048576 → S i p = some e → (∀ z, Dt.atKey (spotK i p) z = .held (itV e (A i p) (C i p))) ∧ Reads .i64 w0 (A i p) e.chunks) ∧
    (∀ kl, has Dt kl = true → ∃ i p, i ≤ 100 ∧ p.length ≤ 1048576 ∧ kl = spotK i p)
theorem SeeM.lt {w0 w : World} {b N : Nat} {S : Nat → Bs → Option En} (h : SeeM w0 w b N S) : b < w.heap.size := by
  obtain ⟨Dt, A, C, h1, _⟩ := h
  exact h1.lt
theorem SeeM.kept {Q : Nat → Prop} {w0 w w' : World} {b N : Nat} {S : Nat → Bs → Option En} (h : SeeM w0 w b N S) (hk : Kept Q w w') (hb : ¬ Q b) : SeeM w0 w' b N S := by
  obtain ⟨Dt, A, C, h1, h2⟩ := h
  have hlt := h1.lt
  obtain ⟨es, clock, hh, r⟩ := h1
  exact ⟨Dt, A, C, ⟨es, clock, (hk.block b hlt hb).trans hh, r⟩, h2⟩
theorem SeeM.below {w0 w w' : World} {b N : Nat} {S : Nat → Bs → Option En} (h : SeeM w0 w b N S) (hk : Below w.heap.size w w') : SeeM w0 w' b N S :=
  h.kept (Q := fun _ => False) (Kept.of_below hk) id
theorem SeeM.congr {w0 w : World} {b N : Nat} {S S' : Nat → Bs → Option En} (h : SeeM w0 w b N S) (hS : ∀ i p, S i p = S' i p) : SeeM w0 w b N S' := by
  have : S = S' := funext fun i => funext fun p => hS i p
  rw [← this]; exact h
theorem SeeM.made (w0 w : World) : SeeM w0 (w.alloc (.map #[] 0)) w.heap.size 0 (fun _ _ => none) := by
  refine ⟨.map [], fun _ _ => none, fun _ _ => 0, World.ownsMap_made _ _ _ _, ?_, ?_, ?_⟩
  · intro i p _ _
    simp [has]
  · intro i p e _ _ h
    simp at h
  · intro kl h
    simp [has] at h
theorem see_grown {w w' : World} {b : Nat} (h : w.grownBy w' (some b)) : Kept (fun x => x = b) w w' :=
  ⟨h.os, h.tape, h.output, h.size, fun k hk hn => h.block k hk (fun e => hn (by simpa using e))⟩
theorem spot_isKey {i : Nat} {p : Bs} (hi : i ≤ 100) (hp : p.length ≤ 1048576) : WideAt.IsKeyLit (spotK i p) := spotLaw.key (spot_key hi hp)

/-- An item is stored. -/
theorem SeeM.put {w0 w : World} {b N i : Nat} {p : Bs} {S : Nat → Bs → Option En} {e : En} {a : Option Addr} {c : Nat} (h : SeeM w0 w b N S) (hi : i ≤ 100) (hp : p.length ≤ 1048576) (hr : Reads .i64 w0 a e.chunks) :
    ∃ Dt, w.ownsMap Tryz.prog 107 RVs b N Dt ∧ ∀ w', w'.ownsMap Tryz.prog 107 RVs b (N + 1) (Dt.put (spotK i p) (.held (itV e a c))) → SeeM w0 w' b (N + 1) (fun j q => if j = i ∧ q = p then some e else S j q) := by
  obtain ⟨Dt, A, C, h1, h2, h3, h4⟩ := h
  refine ⟨Dt, h1, fun w' ho => ?_⟩
  refine ⟨_, fun j q => if j = i ∧ q = p then a else A j q, fun j q => if j = i ∧ q = p then c else C j q, ho, fun j q hj hq => ?_, fun j q x hj hq hx => ?_, fun kl hkl => ?_⟩
  · by_cases e1 : j = i ∧ q = p
    · obtain ⟨rfl, rfl⟩ := e1
      rw [has_put_same h1.isMap (spot_isKey hj hq)]
      simp
    · have hne : spotK j q ≠ spotK i p := fun hk => e1 (spotK_inj hj hi hq hp hk)
      rw [has_put_other (by simpa using hne), h2 j q hj hq]
      simp [e1]
  · by_cases e1 : j = i ∧ q = p
    · simp only [if_pos e1] at hx ⊢
      cases hx
      obtain ⟨rfl, rfl⟩ := e1
      exact ⟨fun z => atKey_put_same h1.isMap (spot_isKey hj hq) _ _, hr⟩
    · have hne : spotK j q ≠ spotK i p := fun hk => e1 (spotK_inj hj hi hq hp hk)
      simp only [if_neg e1] at hx ⊢
      exact ⟨fun z => by rw [atKey_put_other (by simpa using hne)]; exact (h3 j q x hj hq hx).1 z, (h3 j q x hj hq hx).2⟩
  · by_cases e1 : kl = spotK i p
    · exact ⟨i, p, hi, hp, e1⟩
    · rw [has_put_other (by simpa using e1)] at hkl
      exact h4 kl hkl

theorem SeeM.yes {w0 w : World} {b N i : Nat} {p : Bs} {S : Nat → Bs → Option En} {e : En} (h : SeeM w0 w b N S) (hi : i ≤ 100) (hp : p.length ≤ 1048576) (he : S i p = some e) :
    ∃ a c, (Instr.lookup 63 (.map (some b)) (spotV i p) true).run Tryz.prog w = .ok (.tuple #[itV e a c, .bool true]) w ∧ (Instr.lookup 63 (.map (some b)) (spotV i p) false).run Tryz.prog w = .ok (itV e a c) w ∧ Reads .i64 w0 a e.chunks := by
  obtain ⟨Dt, A, C, h1, h2, h3, h4⟩ := h
  refine ⟨A i p, C i p, ?_, ?_, (h3 i p e hi hp he).2⟩
  · obtain ⟨v, ps, hrun, hv⟩ := h1.look_ok spotLaw Tryz.underlying63 (zeroIt w) (zd := .held (.agg #[.int .i64 0, .slice none 0 0, .string ⟨#[]⟩, .int .i64 0])) (zp := []) rfl (spot_key hi hp)
    simp only [RVs, Option.some.injEq, Prod.mk.injEq, (h3 i p e hi hp he).1] at hv
    have e1 := hv.1
    simp only [DataW.held.injEq] at e1
    rw [hrun, h2 i p hi hp, he]
    simp [e1]
  · obtain ⟨v, ps, hrun, hv⟩ := h1.lookup spotLaw Tryz.underlying63 (zeroIt w) (zd := .held (.agg #[.int .i64 0, .slice none 0 0, .string ⟨#[]⟩, .int .i64 0])) (zp := []) rfl (spot_key hi hp)
    simp only [RVs, Option.some.injEq, Prod.mk.injEq, (h3 i p e hi hp he).1] at hv
    have e1 := hv.1
    simp only [DataW.held.injEq] at e1
    rw [hrun]
    simp [e1]
theorem SeeM.no {w0 w : World} {b N i : Nat} {p : Bs} {S : Nat → Bs → Option En} (h : SeeM w0 w b N S) (hi : i ≤ 100) (hp : p.length ≤ 1048576) (he : S i p = none) :
    (Instr.lookup 63 (.map (some b)) (spotV i p) true).run Tryz.prog w = .ok (.tuple #[.agg #[.int .i64 0, .slice none 0 0, .string ⟨#[]⟩, .int .i64 0], .bool false]) w := by
  obtain ⟨Dt, A, C, h1, h2, h3, h4⟩ := h
  obtain ⟨v, ps, hrun, hv⟩ := h1.look_ok spotLaw Tryz.underlying63 (zeroIt w) (zd := .held (.agg #[.int .i64 0, .slice none 0 0, .string ⟨#[]⟩, .int .i64 0])) (zp := []) rfl (spot_key hi hp)
  have hh : has Dt (spotK i p) = false := by rw [h2 i p hi hp, he]; rfl
  rw [atKey_of_not_has hh] at hv
  simp only [RVs, Option.some.injEq, Prod.mk.injEq] at hv
  have e1 := hv.1
  simp only [DataW.held.injEq] at e1
  rw [hrun, hh, e1]
/-- A look-up at the operation, its run known. -/
theorem wpList_lookS {P : Program} {w : World} {ops : Array Oper} {rest : List Oper} {o : Oper} {a : Act} {Q : Exit → Act → World → Prop} (hg : o.guard = none) (m x : Operand) (t : TypeId) (c : Bool) (hop : o.op = Op.lookup t m x c)
    (vm vx v : Value) (hm : a.eval m = vm) (hx : a.eval x = vx) (hrun : (Instr.lookup t vm vx c).run P w = .ok v w) (h : wpList P ops Q rest (a.put o.dst v) w) : wpList P ops Q (o :: rest) a w := by
  refine wpList_plain hg fun K' hK' => ?_
  unfold Oper.wp
  simp [execOp, hop, hm, hx, hrun, Result.andThen]
  exact hK' _ _ h
end Go.Proofs.YtmpojjlpopimfaaGreat
