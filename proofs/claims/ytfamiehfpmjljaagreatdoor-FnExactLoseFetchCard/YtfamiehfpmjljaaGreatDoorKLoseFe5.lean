/-
  Texts put together: FetE FetF ChunksMk Lay.
-/
import Derived.Test.YtfamiehfpmjljaaGreatDoorKLoseFe3
import Derived.LaidEql
import Derived.Stop.Asserts
import Derived.RowKitTokens
import Derived.Test.YtfamiehfpmjljaaGreatDoorKLoseFe2
import Derived.Shelf.SlIterI.Nil
import Derived.Shelf.SortM.Plain
import Derived.Shelf.SortM.SortNone
import Derived.Ground.GgzProg
import Derived.Ground.SlgmProg
import Derived.Test.YtfamiehfpmjljaaGreatDoorProg
namespace Go.Proofs.YtfamiehfpmjljaaGreatDoor
open Go.RowKit Go.Extern.Stop Go.Stop Go.Extern
set_option linter.unusedVariables false

theorem as_nil (t : Value) (w : World) : Calls Tryz.prog 95 #[.nilIface, t] w fun e w' => e = .returned (.bool false) ∧ w' = w := by
  go_enter Tryz.func95, Tryz.ntmps95
  go_wp2
  go_ret
  exact ⟨rfl, rfl⟩
theorem rl_valueOfP (t : Addr) (w : World) : (ReflectliteValue.unpack (.iface 134 (.pointer (some t)))).run Tryz.prog w
    = .ok (.agg #[.pointer (some ⟨4, 134, none⟩), .pointer (some ⟨w.heap.size, 0, none⟩), .int .u64 150]) (w.alloc (.cells #[.pointer (some t)] 134)) := by kernel_rfl
theorem rl_typeP (a : Addr) (w : World) : (ReflectliteValue.methodAny (ReflectliteValue.valueError "reflectlite.Value.Type" 0) (fun t _ _ _ => ReflectliteType.toType t) #[.agg #[.pointer (some ⟨4, 134, none⟩), .pointer (some a), .int .u64 150]]).run Tryz.prog w
    = .ok (.iface 189 (.agg #[.pointer (some ⟨4, 134, none⟩)])) w := by kernel_rfl
theorem rl_methodKind (h : Value) (w : World) : (Go.method 395 189 (.agg #[h]) "Kind").run Tryz.prog w = .ok (218, h) w := by kernel_rfl
theorem rl_kindP (w : World) : ((ReflectliteType.abiMethod fun t => (fun a : Nat => Value.int IntKind.u8 (a : Int)) <$> Rtype.kind t) #[.pointer (some ⟨4, 134, none⟩)]).run Tryz.prog w = .ok (.int .u8 22) w := by kernel_rfl
theorem rl_kindS (w : World) : ((ReflectliteType.abiMethod fun t => (fun a : Nat => Value.int IntKind.u8 (a : Int)) <$> Rtype.kind t) #[.pointer (some ⟨4, 131, none⟩)]).run Tryz.prog w = .ok (.int .u8 25) w := by kernel_rfl
theorem rl_m (z : Sem Value) (f : TypeId → Addr → Nat → Nat → Sem Value) (v : Value) :
    ReflectliteValue.method z f #[v] = (do match ← ReflectliteValue.parts v with | none => z | some (t, a, fl) => f t a fl (fl % 32)) := rfl
theorem rl_partsP (a : Addr) (w : World) : (ReflectliteValue.parts (.agg #[.pointer (some ⟨4, 134, none⟩), .pointer (some a), .int .u64 150])).run Tryz.prog w = .ok (some (134, a, 150)) w := by kernel_rfl
theorem rl_isNilP (a p : Addr) (W : World) (ha : W.cell? a = some (.pointer (some p))) :
    (ReflectliteValue.method (ReflectliteValue.valueError "reflectlite.Value.IsNil" 0) ReflectliteValue.isNil #[.agg #[.pointer (some ⟨4, 134, none⟩), .pointer (some a), .int .u64 150]]).run Tryz.prog W = .ok (.bool false) W := by
  rw [rl_m]
  simp only [Sem.run_bind, rl_partsP, Result.andThen]
  simp [ReflectliteValue.isNil, loadVar, isAgg, underlying, Tryz.underlying134, ha, Result.andThen]
theorem rl_methodElem (h : Value) (w : World) : (Go.method 395 189 (.agg #[h]) "Elem").run Tryz.prog w = .ok (228, .agg #[h]) w := by kernel_rfl
theorem rl_methodImplements (h : Value) (w : World) : (Go.method 395 189 (.agg #[h]) "Implements").run Tryz.prog w = .ok (229, .agg #[h]) w := by kernel_rfl
theorem rl_methodAssignableTo (h : Value) (w : World) : (Go.method 395 189 (.agg #[h]) "AssignableTo").run Tryz.prog w = .ok (226, .agg #[h]) w := by kernel_rfl
theorem rl_elemP (w : World) : (ReflectliteType.method ReflectliteType.elem #[.agg #[.pointer (some ⟨4, 134, none⟩)]]).run Tryz.prog w = .ok (.iface 189 (.agg #[.pointer (some ⟨4, 131, none⟩)])) w := by kernel_rfl
theorem rl_implementsS (w : World) : (ReflectliteType.relation "Implements" ReflectliteType.implements_ #[.agg #[.pointer (some ⟨4, 131, none⟩)], .iface 189 (.agg #[.pointer (some ⟨4, 76, none⟩)])]).run Tryz.prog w = .ok (.bool true) w := by kernel_rfl
theorem rl_typeOfS (v : Value) (w : World) : (ReflectliteType.typeOf #[.iface 131 v]).run Tryz.prog w = .ok (.iface 189 (.agg #[.pointer (some ⟨4, 131, none⟩)])) w := by kernel_rfl
theorem rl_typeOfE (v : Value) (w : World) : (ReflectliteType.typeOf #[.iface 262 v]).run Tryz.prog w = .ok (.iface 189 (.agg #[.pointer (some ⟨4, 262, none⟩)])) w := by kernel_rfl
theorem rl_assignableS (w : World) : (ReflectliteType.relation "AssignableTo" ReflectliteType.assignableTo #[.agg #[.pointer (some ⟨4, 131, none⟩)], .iface 189 (.agg #[.pointer (some ⟨4, 131, none⟩)])]).run Tryz.prog w = .ok (.bool true) w := by kernel_rfl
theorem rl_assignableE (w : World) : (ReflectliteType.relation "AssignableTo" ReflectliteType.assignableTo #[.agg #[.pointer (some ⟨4, 262, none⟩)], .iface 189 (.agg #[.pointer (some ⟨4, 131, none⟩)])]).run Tryz.prog w = .ok (.bool false) w := by kernel_rfl
theorem rl_valueOfS (d : Int) (w : World) : (ReflectliteValue.unpack (.iface 131 (.agg #[.int .i64 d]))).run Tryz.prog w
    = .ok (.agg #[.pointer (some ⟨4, 131, none⟩), .pointer (some ⟨w.heap.size, 0, none⟩), .int .u64 153]) (w.alloc (.cells #[.int .i64 d] 131)) := by kernel_rfl
theorem rl_elemOfP (w : World) : (Rtype.elem? 134).run Tryz.prog w = .ok (some 131) w := by kernel_rfl
theorem rl_mkS (p : Addr) (w : World) : (ReflectliteValue.mk 131 p ReflectliteValue.flagAddr).run Tryz.prog w = .ok (.agg #[.pointer (some ⟨4, 131, none⟩), .pointer (some p), .int .u64 409]) w := by kernel_rfl
theorem rl_elemVP (a p : Addr) (W : World) (ha : W.cell? a = some (.pointer (some p))) :
    (ReflectliteValue.method (ReflectliteValue.valueError "reflectlite.Value.Elem" 0) ReflectliteValue.elem #[.agg #[.pointer (some ⟨4, 134, none⟩), .pointer (some a), .int .u64 150]]).run Tryz.prog W
      = .ok (.agg #[.pointer (some ⟨4, 131, none⟩), .pointer (some p), .int .u64 409]) W := by
  rw [rl_m]
  simp only [Sem.run_bind, rl_partsP, Result.andThen]
  simp [ReflectliteValue.elem, loadVar, isAgg, underlying, Tryz.underlying134, ha, Result.andThen, rl_elemOfP, rl_mkS]
theorem rl_s : ∃ s1 s2 s3 s4 s5 : String, ∀ v x : Value, ReflectliteValue.set #[v, x] = (do
    let (some (dst, a, fl), some (src, b, _)) := (← ReflectliteValue.parts v, ← ReflectliteValue.parts x)
      | unsupported (.noEntry s1)
    if fl / ReflectliteValue.flagAddr % 2 == 0 then unsupported (.noEntry s2)
    let val ← loadVar src b
    if ← Rtype.directlyAssignable dst src then storeVar dst a val
    else if ← Rtype.implements dst src then
      if (← Rtype.kind src) == 20 then
        match val with
        | .nilIface => unsupported (.noEntry s3)
        | _ => storeVar dst a val
      else storeVar dst a (.iface src val)
    else panicString (s4 ++ (← Rtype.spelt src) ++ s5 ++ (← Rtype.spelt dst))
    pure (.tuple #[])) := ⟨_, _, _, _, _, fun _ _ => rfl⟩
theorem rl_partsSa (a : Addr) (w : World) : (ReflectliteValue.parts (.agg #[.pointer (some ⟨4, 131, none⟩), .pointer (some a), .int .u64 409])).run Tryz.prog w = .ok (some (131, a, 409)) w := by kernel_rfl
theorem rl_partsS (a : Addr) (w : World) : (ReflectliteValue.parts (.agg #[.pointer (some ⟨4, 131, none⟩), .pointer (some a), .int .u64 153])).run Tryz.prog w = .ok (some (131, a, 153)) w := by kernel_rfl
theorem rl_directS (w : World) : (Rtype.directlyAssignable 131 131).run Tryz.prog w = .ok true w := by kernel_rfl
theorem rl_setS (tb to bb : Nat) (d : Int) (old : Value) (W : World) (hb : W.cell? ⟨bb, 0, none⟩ = some (.int .i64 d)) (ht : W.cell? ⟨tb, to, none⟩ = some old) (hf : W.frozen? ⟨tb, to, none⟩ = false) :
    (ReflectliteValue.set #[.agg #[.pointer (some ⟨4, 131, none⟩), .pointer (some ⟨tb, to, none⟩), .int .u64 409], .agg #[.pointer (some ⟨4, 131, none⟩), .pointer (some ⟨bb, 0, none⟩), .int .u64 153]]).run Tryz.prog W
      = .ok (.tuple #[]) (W.setCell ⟨tb, to, none⟩ (.int .i64 d)) := by
  have hl : (loadCells ⟨bb, 0, none⟩ 1).run Tryz.prog W = .ok #[.int .i64 d] W := by
    have h1 := run_loadCells_list (P := Tryz.prog) W ⟨bb, 0, none⟩ [.int .i64 d] (by
      intro j u hj
      have hj0 : j = 0 := by
        rcases Nat.eq_zero_or_pos j with h | h
        · exact h
        · rw [List.getElem?_eq_none (by simp; omega)] at hj; cases hj
      subst hj0
      obtain rfl : Value.int .i64 d = u := by simpa using hj
      have hadd : (⟨bb, 0, none⟩ : Addr).add 0 = ⟨bb, 0, none⟩ := by simp [Addr.add]
      rw [hadd]
      exact hb)
    simpa using h1
  obtain ⟨s1, s2, s3, s4, s5, hs⟩ := rl_s
  rw [hs]
  simp only [Sem.run_bind, rl_partsSa, rl_partsS, Result.andThen]
  simp [ReflectliteValue.flagAddr, loadVar, isAgg, underlying, Tryz.underlying131, hl, Result.andThen, rl_directS, storeVar, Value.cells, storeCells, Addr.add]
  rw [run_store Tryz.prog W ⟨tb, to, none⟩ _ _ (by rfl)]
  simp [ht, hf]
set_option maxRecDepth 100000 in
set_option maxHeartbeats 4000000 in
theorem as_hit (d : Int) (tb : Nat) (old : Value) (w : World) (hg : w.cell? ⟨2, 0, none⟩ = some (.iface 189 (.agg #[.pointer (some ⟨4, 76, none⟩)]))) (ht0 : w.cell? ⟨tb, 0, none⟩ = some old) (hf0 : w.frozen? ⟨tb, 0, none⟩ = false) :
    Calls Tryz.prog 95 #[.iface 131 (.agg #[.int .i64 d]), .iface 134 (.pointer (some ⟨tb, 0, none⟩))] w fun ev w' => ev = .returned (.bool true) ∧ w'.cell? ⟨tb, 0, none⟩ = some (.int .i64 d) ∧ w'.frozen? ⟨tb, 0, none⟩ = false ∧ Kept (fun b => b = tb) w w' := by
  have h6 := @run_callFunc_extern Tryz.prog 121 _ (fun args => ReflectliteValue.unpack (args.getD 0 (.tuple #[]))) Tryz.func121 (by kernel_rfl) (by kernel_rfl) (by kernel_rfl) (by kernel_rfl)
  have h7 := @run_callFunc_extern Tryz.prog 122 _ (ReflectliteValue.methodAny (ReflectliteValue.valueError "reflectlite.Value.Type" 0) (fun t _ _ _ => ReflectliteType.toType t)) Tryz.func122 (by kernel_rfl) (by kernel_rfl) (by kernel_rfl) (by kernel_rfl)
  have h8 := @run_callFunc_extern Tryz.prog 123 _ (ReflectliteValue.method (ReflectliteValue.valueError "reflectlite.Value.IsNil" 0) ReflectliteValue.isNil) Tryz.func123 (by kernel_rfl) (by kernel_rfl) (by kernel_rfl) (by kernel_rfl)
  have h27 := @run_callFunc_extern Tryz.prog 218 _ (ReflectliteType.abiMethod fun t => do pure (.int .u8 (← Rtype.kind t))) Tryz.func218 (by kernel_rfl) (by kernel_rfl) (by kernel_rfl) (by kernel_rfl)
  have h37 := @run_callFunc_extern Tryz.prog 228 _ (ReflectliteType.method ReflectliteType.elem) Tryz.func228 (by kernel_rfl) (by kernel_rfl) (by kernel_rfl) (by kernel_rfl)
  have h38 := @run_callFunc_extern Tryz.prog 229 _ (ReflectliteType.relation "Implements" ReflectliteType.implements_) Tryz.func229 (by kernel_rfl) (by kernel_rfl) (by kernel_rfl) (by kernel_rfl)
  have h10 := @run_callFunc_extern Tryz.prog 140 _ ReflectliteType.typeOf Tryz.func140 (by kernel_rfl) (by kernel_rfl) (by kernel_rfl) (by kernel_rfl)
  have h35 := @run_callFunc_extern Tryz.prog 226 _ (ReflectliteType.relation "AssignableTo" ReflectliteType.assignableTo) Tryz.func226 (by kernel_rfl) (by kernel_rfl) (by kernel_rfl) (by kernel_rfl)
  have h11 := @run_callFunc_extern Tryz.prog 146 _ (ReflectliteValue.method (ReflectliteValue.valueError "reflectlite.Value.Elem" 0) ReflectliteValue.elem) Tryz.func146 (by kernel_rfl) (by kernel_rfl) (by kernel_rfl) (by kernel_rfl)
  have h12 := @run_callFunc_extern Tryz.prog 147 _ ReflectliteValue.set Tryz.func147 (by kernel_rfl) (by kernel_rfl) (by kernel_rfl) (by kernel_rfl)
  have tO := rl_typeOfS
  have mA := rl_methodAssignableTo
  have a25 := rl_assignableS
  have v25 := rl_valueOfS
  have f6 := rl_valueOfP
  have f7 := rl_typeP
  have mK := rl_methodKind
  have mE := rl_methodElem
  have mI := rl_methodImplements
  have k27 := rl_kindP
  have k25 := rl_kindS
  have e27 := rl_elemP
  have i25 := rl_implementsS
  let A1 : Obj := .cells #[.pointer (some ⟨tb, 0, none⟩)] 134
  let A2 : Obj := .cells #[.pointer (some ⟨4, 134, none⟩), .pointer (some ⟨w.heap.size, 0, none⟩), .int .u64 150] 160
  let A4 : Obj := .cells #[.int .i64 d] 131
  have hlt : 2 < w.heap.size := World.block_lt_of_cell? w ⟨2, 0, none⟩ hg
  have htl : tb < w.heap.size := World.block_lt_of_cell? w ⟨tb, 0, none⟩ ht0
  have n8 := rl_isNilP ⟨w.heap.size, 0, none⟩ ⟨tb, 0, none⟩ ((w.alloc A1).alloc A2) (by simp [A1, A2])
  have hg2 : ((w.alloc A1).alloc A2).cell? ⟨2, 0, none⟩ = some (.iface 189 (.agg #[.pointer (some ⟨4, 76, none⟩)])) := by
    rw [World.cell?_alloc_lt _ _ ⟨2, 0, none⟩ (by simp; omega), World.cell?_alloc_lt _ _ ⟨2, 0, none⟩ hlt]; exact hg
  have el := rl_elemVP ⟨w.heap.size, 0, none⟩ ⟨tb, 0, none⟩ (((w.alloc A1).alloc A2).alloc A2) (by rw [World.cell?_alloc_lt _ _ ⟨w.heap.size, 0, none⟩ (by simp; omega)]; simp [A1, A2])
  have st := rl_setS tb 0 (w.heap.size + 1 + 1 + 1) d old ((((w.alloc A1).alloc A2).alloc A2).alloc A4)
    (by rw [World.cell?_alloc_at _ _ _ _ (by simp)]; rfl)
    (by rw [World.cell?_alloc_lt _ _ ⟨tb, 0, none⟩ (by simp; omega), World.cell?_alloc_lt _ _ ⟨tb, 0, none⟩ (by simp; omega), World.cell?_alloc_lt _ _ ⟨tb, 0, none⟩ (by simp; omega), World.cell?_alloc_lt _ _ ⟨tb, 0, none⟩ htl]; exact ht0)
    (by rw [World.frozen?_alloc_old _ _ ⟨tb, 0, none⟩ (by simp; omega), World.frozen?_alloc_old _ _ ⟨tb, 0, none⟩ (by simp; omega), World.frozen?_alloc_old _ _ ⟨tb, 0, none⟩ (by simp; omega), World.frozen?_alloc_old _ _ ⟨tb, 0, none⟩ (Nat.ne_of_lt htl)]; exact hf0)
  have BB := hide (below_next (below_next (below_next (below_alloc w A1) (below_alloc _ A2)) (below_alloc _ A2)) (below_alloc _ A4))
  have HT0 := hide ht0
  have HF0 := hide hf0
  have fin : Hid ((((((w.alloc A1).alloc A2).alloc A2).alloc A4).setCell ⟨tb, 0, none⟩ (.int .i64 d)).cell? ⟨tb, 0, none⟩ = some (.int .i64 d) ∧ (((((w.alloc A1).alloc A2).alloc A2).alloc A4).setCell ⟨tb, 0, none⟩ (.int .i64 d)).frozen? ⟨tb, 0, none⟩ = false ∧ Kept (fun b => b = tb) w (((((w.alloc A1).alloc A2).alloc A2).alloc A4).setCell ⟨tb, 0, none⟩ (.int .i64 d))) := hide ⟨cell_set_same ((BB.out.cell (p := ⟨tb, 0, none⟩) htl).trans HT0.out), by rw [World.frozen?_setCell]; exact (BB.out.frozen (p := ⟨tb, 0, none⟩) htl).trans HF0.out, (Kept.of_below BB.out).trans (Kept.one _ _ _ _)⟩
  simp only [A1, A2, A4] at n8 hg2 el st fin
  clear BB HT0 HF0 A1 A2 A4
  go_enter Tryz.func95, Tryz.ntmps95
  go_wp2
  refine wp_loop_rounds 1 ?_
  rw [rounds_succ]
  go_wp2
  go_ret
  exact ⟨rfl, fin.out⟩
end Go.Proofs.YtfamiehfpmjljaaGreatDoor

namespace Go.Proofs.YtfamiehfpmjljaaGreatDoor
open Go.RowKit Go.Extern.Stop Go.Stop Go.Extern
set_option linter.unusedVariables false

structure Ge (w : World) (a0 a1 : Addr) : Prop where
  e0 : w.cell? ⟨0, 0, none⟩ = some (.iface 262 (.pointer (some a0)))
  e1 : w.cell? ⟨1, 0, none⟩ = some (.iface 262 (.pointer (some a1)))
  ty : w.cell? ⟨2, 0, none⟩ = some (.iface 189 (.agg #[.pointer (some ⟨4, 76, none⟩)]))
  ne : a0 ≠ a1
  b0 : ∃ ca ta, w.heap[a0.block]? = some (.cells ca ta (0, 0))
  b1 : ∃ ca ta, w.heap[a1.block]? = some (.cells ca ta (0, 0))
theorem Ge.below {w w' : World} {a0 a1 : Addr} (h : Ge w a0 a1) (hb : Below w.heap.size w w') : Ge w' a0 a1 := by
  obtain ⟨h0, h1, h2, h3, ⟨c0, t0, h4⟩, c1, t1, h5⟩ := h
  have l0 := World.block_lt_of_cell? w _ h0
  have l1 := World.block_lt_of_cell? w _ h1
  have l2 := World.block_lt_of_cell? w _ h2
  have k0 : a0.block < w.heap.size := by
    rcases Nat.lt_or_ge a0.block w.heap.size with h | h
    · exact h
    · rw [Array.getElem?_eq_none h] at h4; cases h4
  have k1 : a1.block < w.heap.size := by
    rcases Nat.lt_or_ge a1.block w.heap.size with h | h
    · exact h
    · rw [Array.getElem?_eq_none h] at h5; cases h5
  exact ⟨(hb.cell l0).trans h0, (hb.cell l1).trans h1, (hb.cell l2).trans h2, h3, ⟨c0, t0, (hb.block _ k0).trans h4⟩, c1, t1, (hb.block _ k1).trans h5⟩
theorem no_As (v : Value) (xT : TypeId) (w : World) : (Instr.typeAssert (.iface 262 v) xT 193 true).run Tryz.prog w = .ok (.tuple #[.nilIface, .bool false]) w := run_typeAssert_lacksB Tryz.underlying193 (by kernel_rfl) (by kernel_rfl) v xT w
theorem no_Is (v : Value) (xT : TypeId) (w : World) : (Instr.typeAssert (.iface 262 v) xT 217 true).run Tryz.prog w = .ok (.tuple #[.nilIface, .bool false]) w := run_typeAssert_lacksB Tryz.underlying217 (by kernel_rfl) (by kernel_rfl) v xT w
theorem no_Unwrap (v : Value) (xT : TypeId) (w : World) : (Instr.typeAssert (.iface 262 v) xT 196 true).run Tryz.prog w = .ok (.tuple #[.nilIface, .bool false]) w := run_typeAssert_lacksB Tryz.underlying196 (by kernel_rfl) (by kernel_rfl) v xT w
theorem no_Unwraps (v : Value) (xT : TypeId) (w : World) : (Instr.typeAssert (.iface 262 v) xT 198 true).run Tryz.prog w = .ok (.tuple #[.nilIface, .bool false]) w := run_typeAssert_lacksB Tryz.underlying198 (by kernel_rfl) (by kernel_rfl) v xT w
set_option maxRecDepth 100000 in
set_option maxHeartbeats 4000000 in
theorem as_miss (ea : Addr) (tb : Nat) (old : Value) (w : World) (hg : w.cell? ⟨2, 0, none⟩ = some (.iface 189 (.agg #[.pointer (some ⟨4, 76, none⟩)]))) (ht0 : w.cell? ⟨tb, 0, none⟩ = some old) :
    Calls Tryz.prog 95 #[.iface 262 (.pointer (some ea)), .iface 134 (.pointer (some ⟨tb, 0, none⟩))] w fun ev w' => ev = .returned (.bool false) ∧ Below w.heap.size w w' := by
  have h6 := @run_callFunc_extern Tryz.prog 121 _ (fun args => ReflectliteValue.unpack (args.getD 0 (.tuple #[]))) Tryz.func121 (by kernel_rfl) (by kernel_rfl) (by kernel_rfl) (by kernel_rfl)
  have h7 := @run_callFunc_extern Tryz.prog 122 _ (ReflectliteValue.methodAny (ReflectliteValue.valueError "reflectlite.Value.Type" 0) (fun t _ _ _ => ReflectliteType.toType t)) Tryz.func122 (by kernel_rfl) (by kernel_rfl) (by kernel_rfl) (by kernel_rfl)
  have h8 := @run_callFunc_extern Tryz.prog 123 _ (ReflectliteValue.method (ReflectliteValue.valueError "reflectlite.Value.IsNil" 0) ReflectliteValue.isNil) Tryz.func123 (by kernel_rfl) (by kernel_rfl) (by kernel_rfl) (by kernel_rfl)
  have h27 := @run_callFunc_extern Tryz.prog 218 _ (ReflectliteType.abiMethod fun t => do pure (.int .u8 (← Rtype.kind t))) Tryz.func218 (by kernel_rfl) (by kernel_rfl) (by kernel_rfl) (by kernel_rfl)
  have h37 := @run_callFunc_extern Tryz.prog 228 _ (ReflectliteType.method ReflectliteType.elem) Tryz.func228 (by kernel_rfl) (by kernel_rfl) (by kernel_rfl) (by kernel_rfl)
  have h38 := @run_callFunc_extern Tryz.prog 229 _ (ReflectliteType.relation "Implements" ReflectliteType.implements_) Tryz.func229 (by kernel_rfl) (by kernel_rfl) (by kernel_rfl) (by kernel_rfl)
  have h10 := @run_callFunc_extern Tryz.prog 140 _ ReflectliteType.typeOf Tryz.func140 (by kernel_rfl) (by kernel_rfl) (by kernel_rfl) (by kernel_rfl)
  have h35 := @run_callFunc_extern Tryz.prog 226 _ (ReflectliteType.relation "AssignableTo" ReflectliteType.assignableTo) Tryz.func226 (by kernel_rfl) (by kernel_rfl) (by kernel_rfl) (by kernel_rfl)
  have tO := rl_typeOfE
  have mA := rl_methodAssignableTo
  have a25 := rl_assignableE
  have f6 := rl_valueOfP
  have f7 := rl_typeP
  have mK := rl_methodKind
  have mE := rl_methodElem
  have mI := rl_methodImplements
  have k27 := rl_kindP
  have k25 := rl_kindS
  have e27 := rl_elemP
  have i25 := rl_implementsS
  have nA := no_As
  have nU := no_Unwrap
  have nV := no_Unwraps
  let A1 : Obj := .cells #[.pointer (some ⟨tb, 0, none⟩)] 134
  let A2 : Obj := .cells #[.pointer (some ⟨4, 134, none⟩), .pointer (some ⟨w.heap.size, 0, none⟩), .int .u64 150] 160
  have hlt : 2 < w.heap.size := World.block_lt_of_cell? w ⟨2, 0, none⟩ hg
  have n8 := rl_isNilP ⟨w.heap.size, 0, none⟩ ⟨tb, 0, none⟩ ((w.alloc A1).alloc A2) (by simp [A1, A2])
  have hg2 : ((w.alloc A1).alloc A2).cell? ⟨2, 0, none⟩ = some (.iface 189 (.agg #[.pointer (some ⟨4, 76, none⟩)])) := by
    rw [World.cell?_alloc_lt _ _ ⟨2, 0, none⟩ (by simp; omega), World.cell?_alloc_lt _ _ ⟨2, 0, none⟩ hlt]; exact hg
  have fin : Hid (Below w.heap.size w (((w.alloc A1).alloc A2).alloc A2)) := hide (below_next (below_next (below_alloc w A1) (below_alloc _ A2)) (below_alloc _ A2))
  simp only [A1, A2] at n8 hg2 fin
  clear A1 A2
  go_enter Tryz.func95, Tryz.ntmps95
  go_wp2
  refine wp_loop_rounds 1 ?_
  rw [rounds_succ]
  go_wp2
  go_ret
  exact ⟨rfl, fin.out⟩
def cmpF : Array Value → Sem Value := Extern.ReflectliteType.method fun t => do Go.Extern.Rtype.noPackHeld "Comparable" t; pure (.bool (← typeInfo t).comparable)
theorem is_comparable (w : World) : (cmpF #[.agg #[.pointer (some ⟨4, 262, none⟩)]]).run Tryz.prog w = .ok (.bool true) w := by kernel_rfl
theorem is_methodComparable (v : Value) (w : World) : (Go.method 395 189 v "Comparable").run Tryz.prog w = .ok (227, v) w := by kernel_rfl
theorem is_comp : (Tryz.prog.info? 262).map (·.comparable) = some true := by kernel_rfl
theorem is_size : (Tryz.prog.info? 283).map (·.size) = some 1 := by kernel_rfl
set_option maxRecDepth 100000 in
set_option maxHeartbeats 4000000 in
theorem is_same (a : Addr) (w : World) : Calls Tryz.prog 116 #[.iface 262 (.pointer (some a)), .iface 262 (.pointer (some a))] w fun e w' => e = .returned (.bool true) ∧ w' = w := by
  obtain ⟨i, hi, hcmp⟩ := Option.map_eq_some_iff.1 is_comp
  obtain ⟨j, hj, hjs⟩ := Option.map_eq_some_iff.1 is_size
  have h8 := @run_callFunc_extern Tryz.prog 140 _ ReflectliteType.typeOf Tryz.func140 (by kernel_rfl) (by kernel_rfl) (by kernel_rfl) (by kernel_rfl)
  have h32 := @run_callFunc_extern Tryz.prog 227 _ cmpF Tryz.func227 (by kernel_rfl) (by kernel_rfl) (by kernel_rfl) (by kernel_rfl)
  have tT := rl_typeOfE
  have cT := is_comparable
  have mR := is_methodComparable
  have heq := run_eql_iface_ptr_same (P := Tryz.prog) w a Tryz.underlying76 Tryz.underlying262 hi hcmp hj
  go_enter Tryz.func116, Tryz.ntmps116
  go_wp2
  refine wp_loop_rounds 1 ?_
  rw [rounds_succ]
  go_wp2
  go_ret
  exact ⟨rfl, rfl⟩
set_option maxRecDepth 100000 in
set_option maxHeartbeats 4000000 in
theorem is_other (a b : Addr) (ca cb : Array Value) (ta tb : TypeId) (w : World) (hne : a ≠ b) (ha : w.heap[a.block]? = some (.cells ca ta (0, 0))) (hb : w.heap[b.block]? = some (.cells cb tb (0, 0))) :
    Calls Tryz.prog 116 #[.iface 262 (.pointer (some a)), .iface 262 (.pointer (some b))] w fun e w' => e = .returned (.bool false) ∧ w' = w := by
  obtain ⟨i, hi, hcmp⟩ := Option.map_eq_some_iff.1 is_comp
  obtain ⟨j, hj, hjs⟩ := Option.map_eq_some_iff.1 is_size
  have h8 := @run_callFunc_extern Tryz.prog 140 _ ReflectliteType.typeOf Tryz.func140 (by kernel_rfl) (by kernel_rfl) (by kernel_rfl) (by kernel_rfl)
  have h32 := @run_callFunc_extern Tryz.prog 227 _ cmpF Tryz.func227 (by kernel_rfl) (by kernel_rfl) (by kernel_rfl) (by kernel_rfl)
  have tT := rl_typeOfE
  have cT := is_comparable
  have mR := is_methodComparable
  have nE := no_Is
  have uE := no_Unwrap
  have vE := no_Unwraps
  have heq := run_eql_iface_ptr_other (P := Tryz.prog) w Tryz.underlying76 Tryz.underlying262 hi hcmp hj (by rw [hjs]; decide) hne ha hb
  go_enter Tryz.func116, Tryz.ntmps116
  go_wp2
  refine wp_loop_rounds 1 ?_
  rw [rounds_succ]
  go_wp2
  go_ret
  exact ⟨rfl, rfl⟩
set_option maxHeartbeats 800000 in
theorem isFailure_no (ea : Addr) (a0 a1 : Addr) (w : World) (hg : Ge w a0 a1) :
    Calls Tryz.prog 102 #[.iface 262 (.pointer (some ea))] w fun e w' => e = .returned (.bool false) ∧ Below w.heap.size w w' := by
  have hg1 := hg.below (below_alloc w (.cells #[.int .i64 0] 131))
  have HC := hide (as_miss ea w.heap.size (.int .i64 0) _ hg1.ty (by simp))
  clear hg hg1
  go_enter Tryz.func102, Tryz.ntmps102
  go_wp2_with fail
  refine HC.out.mono ?_
  rintro e w1 ⟨rfl, hb⟩
  have B1 := hide (below_next (below_alloc w (.cells #[.int .i64 0] 131)) hb)
  clear hb
  go_wp2_with fail
  go_ret
  exact ⟨rfl, B1.out⟩
set_option maxHeartbeats 800000 in
theorem fetchCode_unwanted (a0 a1 : Addr) (w : World) (hg : Ge w a0 a1) :
    Calls Tryz.prog 85 #[.iface 262 (.pointer (some a0))] w fun e w' => e = .returned (.int .i64 4) ∧ Below w.heap.size w w' := by
  have HC := hide (isFailure_no a0 a0 a1 w hg)
  have HG := hide hg
  clear hg
  go_enter Tryz.func85, Tryz.ntmps85
  go_wp2_with fail
  refine HC.out.mono ?_
  rintro e w1 ⟨rfl, hb⟩
  have B1 := hide hb
  have g0 := (HG.out.below hb).e0
  clear hb
  go_wp2_with fail
  refine (is_same a0 _).mono ?_
  rintro e w1 ⟨rfl, rfl⟩
  go_wp2_with fail
  go_ret
  exact ⟨rfl, B1.out⟩
set_option maxHeartbeats 800000 in
theorem fetchCode_noRoom (a0 a1 : Addr) (w : World) (hg : Ge w a0 a1) :
    Calls Tryz.prog 85 #[.iface 262 (.pointer (some a1))] w fun e w' => e = .returned (.int .i64 2) ∧ Below w.heap.size w w' := by
  have HC := hide (isFailure_no a1 a0 a1 w hg)
  have HG := hide hg
  clear hg
  go_enter Tryz.func85, Tryz.ntmps85
  go_wp2_with fail
  refine HC.out.mono ?_
  rintro e w1 ⟨rfl, hb⟩
  have B1 := hide hb
  have hg1 := HG.out.below hb
  have g0 := hg1.e0
  obtain ⟨c0, t0, q0⟩ := hg1.b0
  obtain ⟨c1, t1, q1⟩ := hg1.b1
  have HI := hide (is_other a1 a0 c1 c0 t1 t0 w1 (fun e => hg1.ne e.symm) q1 q0)
  clear hb hg1 q0 q1
  go_wp2_with fail
  refine HI.out.mono ?_
  rintro e w1 ⟨rfl, rfl⟩
  go_wp2_with fail
  go_ret
  exact ⟨rfl, B1.out⟩
end Go.Proofs.YtfamiehfpmjljaaGreatDoor

namespace Go.Proofs.YtfamiehfpmjljaaGreatDoor
open Go.RowKit
set_option linter.unusedVariables false

def upd {α : Type} (f : Nat → α) (j : Nat) (x : α) : Nat → α := fun t => if t = j then x else f t
theorem upd_same {α : Type} (f : Nat → α) (j : Nat) (x : α) : upd f j x j = x := by simp [upd]
theorem upd_other {α : Type} (f : Nat → α) (j : Nat) (x : α) {t : Nat} (h : t ≠ j) : upd f j x t = f t := by simp [upd, h]

theorem GC.congr {B T : Nat} {w : World} {v : Value} {D D' : Nat → Int} {P P' : Nat → List Int} {n : Nat} (h : GC B T w v D P n) (hD : ∀ i, i < n → D' i = D i) (hP : ∀ i, i < n → P' i = P i) : GC B T w v D' P' n := by
  obtain ⟨A, C, h1, h2, h3, h4, h5⟩ := h
  refine ⟨A, C, ?_, fun i hi => by rw [hP i hi]; exact h2 i hi, h3, h4, h5⟩
  rw [flat_congr (G := chCells D P A C) (fun i hi => by simp [chCells, hD i hi, hP i hi])]
  exact h1

theorem GC.open {B T : Nat} {w : World} {a : Option Addr} {c : Nat} {D : Nat → Int} {P : Nat → List Int} {n j : Nat} (h : GC B T w (.slice a n c) D P n) (hj : j < n) :
    ∃ (G : Nat) (x : Option Addr) (y : Nat), a = some ⟨G, 0, none⟩ ∧ B ≤ G ∧ G < T ∧ w.cell? ⟨G, j * 2, none⟩ = some (.int .i64 (D j)) ∧ w.cell? ⟨G, j * 2 + 1, none⟩ = some (.slice x (P j).length y) ∧
      w.frozen? ⟨G, j * 2, none⟩ = false ∧ w.frozen? ⟨G, j * 2 + 1, none⟩ = false ∧ Own .u8 w x (P j) ∧ (∀ b, blkOf x b → B ≤ b ∧ b < T ∧ b ≠ G) ∧
      ∀ (d : Int) (ys : List Int) (w2 : World), ys.length = (P j).length → Own .u8 w2 x ys → Kept (blkOf x) (w.setCell ⟨G, j * 2, none⟩ (.int .i64 d)) w2 → SameShape (w.setCell ⟨G, j * 2, none⟩ (.int .i64 d)) w2 →
        GC B T w2 (.slice a n c) (upd D j d) (upd P j ys) n := by
  obtain ⟨A, C, h1, h2, h3, h4, h5⟩ := h
  rcases h1.2 with ⟨_, h0⟩ | ⟨G, cap, cur, h', hb, hh, hnc, hcm, hcs, htake⟩
  · omega
  · simp only [Value.slice.injEq, true_and] at h'
    obtain ⟨rfl, rfl⟩ := h'
    have hf := fun r hr => flat_get (n := n) (k := 2) (F := chCells D P A C) (fun i _ => rfl) j r hj hr
    have hown : ∀ b, blkOf (A j) b → (Value.slice (A j) (P j).length (C j)).ownBlock = some b := fun b hb => by
      cases hA : A j with
      | none => rw [hA] at hb; simp [blkOf] at hb
      | some x => rw [hA] at hb; simpa [Value.ownBlock, blkOf] using hb
    have hne : ∀ b, blkOf (A j) b → b ≠ G := fun b hb e => ownsRow_apart h1 (h2 j hj) (by decide) (by subst e; rfl) (hown b hb)
    refine ⟨G, A j, C j, rfl, hb, h5 G rfl, ?_, ?_, h1.frozenAt _, h1.frozenAt _, ownsRow_own (h2 j hj) rfl, fun b hb => ⟨((h2 j hj).lt b (hown b hb)).1, h4 j b hj hb, hne b hb⟩, ?_⟩
    · rw [h1.cellAt (j * 2) (by omega)]
      have := hf 0 (by decide)
      rw [Nat.add_zero] at this
      rw [this]; rfl
    · rw [h1.cellAt (j * 2 + 1) (by omega), hf 1 (by decide)]; rfl
    · intro d ys w2 hl ho hk hs
      have hlen : ∀ i, (upd P j ys i).length = (P i).length := fun i => by
        by_cases e : i = j
        · subst e; rw [upd_same]; exact hl
        · rw [upd_other _ _ _ e]
      have s1 := (h1.stored (j * 2) (.int .i64 d)).1
      have e := flat_set (n := n) (k := 2) (F := chCells D P A C) (fun i _ => rfl) j 0 hj (by decide) (.int .i64 d)
      rw [Nat.add_zero] at e
      rw [e] at s1
      have hk1 : Kept (fun b => b = G) w (w.setCell ⟨G, j * 2, none⟩ (.int .i64 d)) := Kept.setCell (S := fun b => b = G) (p := ⟨G, j * 2, none⟩) (Kept.refl _ _) (fun _ => rfl) _
      refine ⟨A, C, ?_, ?_, h3, h4, h5⟩
      · rw [flat_congr (G := fun t => if t = j then (chCells D P A C t).set 0 (.int .i64 d) else chCells D P A C t) (fun i hi => ?_)]
        · exact ownsRow_kept s1 hk (fun b hb hS => hne b hS (by simpa [Value.ownBlock, eq_comm] using hb))
        · by_cases e : i = j
          · subst e; simp [chCells, upd_same, hl]
          · simp [chCells, upd_other _ _ _ e, e]
      · intro i hi
        rw [hlen i]
        have r1 : (w.setCell ⟨G, j * 2, none⟩ (.int .i64 d)).ownsRow B 5 1 (.slice (A i) (P i).length (C i)) (P i).length ((P i).map (Value.int .u8)) :=
          ownsRow_kept (h2 i hi) hk1 (fun b hb e => ownsRow_apart h1 (h2 i hi) (by decide) (by subst e; rfl) hb)
        by_cases e : i = j
        · subst e
          rw [upd_same]
          rcases (h2 i hi).2 with ⟨h', h0⟩ | ⟨g, cap', cur', h', _⟩
          · simp only [Value.slice.injEq] at h'
            have e1 : ys = [] := List.eq_nil_of_length_eq_zero (by omega)
            subst e1
            rw [h'.1, h'.2.2, h0]
            exact World.ownsRow_nil _ _ _ _
          · simp only [Value.slice.injEq, true_and] at h'
            obtain ⟨hA, hC⟩ := h'
            rw [hA] at r1 ho ⊢
            refine own_back r1 hs (by simp [hl]) (fun t ht => ?_)
            obtain ⟨b, off, e1, hb, hc⟩ := ho (by intro e; rw [e] at hl; simp at hl; omega)
            simp only [Option.some.injEq, Addr.mk.injEq, and_true] at e1
            obtain ⟨rfl, rfl⟩ := e1
            have := (hc t (by omega)).1
            rw [Nat.zero_add] at this
            rw [this]
            have ht2 : t < ys.length := by omega
            simp [List.getD_eq_getElem?_getD, ht2]
        · rw [upd_other _ _ _ e]
          refine ownsRow_kept r1 hk (fun b hb hS => e (h3 i j b hi hj ?_ hS))
          cases hA : A i with
          | none => rw [hA] at hb; simp [Value.ownBlock] at hb
          | some x => rw [hA] at hb; simpa [Value.ownBlock] using hb

def markD (k : Int) (P : Nat → List Int) (i : Nat) : Int := k + i + ahead P i
def markP (k : Int) (P : Nat → List Int) (i : Nat) : List Int := marks (k + i + ahead P i + 1) (P i).length

set_option maxHeartbeats 800000 in
theorem markChunkS_any (B T : Nat) (a : Option Addr) (c n : Nat) (D : Nat → Int) (P : Nat → List Int) (k : Int) (w : World) (h : GC B T w (.slice a n c) D P n) (hk0 : 0 ≤ k) (hk1 : k ≤ 1048576) (hn : n ≤ 1048576) (hl : ahead P n ≤ 1048576) :
    Calls Tryz.prog 82 #[.slice a n c, .int .i64 k] w fun e w' => e = .returned (.int .i64 (k + n + ahead P n)) ∧ GC B T w' (.slice a n c) (markD k P) (markP k P) n ∧ Kept (fun b => B ≤ b ∧ b < T) w w' := by
  have HH := hide h
  clear h
  go_enter Tryz.func82, Tryz.ntmps82
  go_wp2
  go_loopw [1, 5] (fun q i wr => ∃ j : Nat, j ≤ n ∧ i = .int .i64 j ∧ q = .int .i64 (k + j + ahead P j) ∧ GC B T wr (.slice a n c) (fun t => if t < j then markD k P t else D t) (fun t => if t < j then markP k P t else P t) n ∧ Kept (fun b => B ≤ b ∧ b < T) w wr) (fun _ i _ => n - (intOf i).toNat)
  case atStart => exact ⟨0, Nat.zero_le _, rfl, by simp [ahead], by simpa using HH.out, Kept.refl _ _⟩
  case round =>
    obtain ⟨j, hj, rfl, rfl, hG, hkept⟩ := hrel
    have HK := hide hkept
    clear hkept
    by_cases hlt : j < n
    · have hle := ahead_le P (i := j + 1) (j := n) (by omega)
      have hsu : ahead P (j + 1) = ahead P j + (P j).length := rfl
      have HSu := hide hsu
      simp only [ahead] at hle
      clear hsu
      obtain ⟨G, x, y, rfl, hg1, hg2, c0, c1, f0, f1, ho, hx, hback⟩ := hG.open hlt
      simp only [Nat.lt_irrefl, if_false] at c0 c1 ho hback
      have hlen : (P j).length ≤ 1048576 := by omega
      have HG := hide hG
      have HO := hide ho
      have HX := hide hx
      have HBK := hide hback
      clear hG ho hx hback
      generalize hxs : P j = xs at *
      generalize D j = dd at c0
      generalize hah : ahead P j = A0 at *
      have HXS := hide (And.intro hxs hah)
      clear hxs hah
      have c1' : ∀ u, (wr.setCell ⟨G, j * 2, none⟩ u).cell? ⟨G, j * 2 + 1, none⟩ = some (.slice x xs.length y) := fun u => (cell_set_other (by intro e; have := congrArg Addr.off e; simp at this)).trans c1
      have OK : Hid (∀ u, Own .u8 (wr.setCell ⟨G, j * 2, none⟩ u) x xs) := fun u => HO.out.kept (Kept.setCell (S := fun b => b = G) (p := ⟨G, j * 2, none⟩) (Kept.refl _ _) (fun _ => rfl) u) (fun b hb e => (HX.out b hb).2.2 e)
      go_wp2_with (go_at_call 33; refine (markByteS_any _ _ xs _ _ (OK.out _) (by omega) (by omega) (by omega)).mono ?_; rintro e w1 ⟨rfl, ho1, hk1', hs1⟩; have HO1 := hide ho1; have HK1 := hide hk1'; have HS1 := hide hs1; clear ho1 hk1' hs1)
      go_roundw
      case rel =>
        refine ⟨j + 1, by omega, by go_num, by rw [HSu.out]; go_num, ?_, ?_⟩
        · refine (HBK.out _ _ _ (by simp [marks_length]) HO1.out HK1.out HS1.out).congr (fun i hi => ?_) (fun i hi => ?_)
          · by_cases e : i = j
            · subst e; rw [if_pos (by omega), upd_same]; simp [markD, HXS.out.2]
            · rw [upd_other _ _ _ e]
              by_cases e2 : i < j
              · rw [if_pos (by omega), if_pos e2]
              · rw [if_neg (by omega), if_neg e2]
          · by_cases e : i = j
            · subst e; rw [if_pos (by omega), upd_same]; simp only [markP, HXS.out.1, HXS.out.2]
            · rw [upd_other _ _ _ e]
              by_cases e2 : i < j
              · rw [if_pos (by omega), if_pos e2]
              · rw [if_neg (by omega), if_neg e2]
        · refine HK.out.trans (Kept.trans (Kept.setCell (p := ⟨G, j * 2, none⟩) (Kept.refl _ _) (fun _ => ⟨hg1, hg2⟩) _) (HK1.out.mono (fun b _ hS => ?_)))
          exact ⟨(HX.out b hS).1, (HX.out b hS).2.1⟩
      case measure => simp [intOf]; omega
    · have hje : j = n := by omega
      subst hje
      go_wp2
      go_ret
      exact ⟨rfl, hG.congr (fun i hi => by rw [if_pos hi]) (fun i hi => by rw [if_pos hi]), HK.out⟩

set_option maxHeartbeats 800000 in
theorem heldChunkS_any (a : Option Addr) (c n : Nat) (P : Nat → List Int) (k : Int) (w : World) (h : RdC w a (markD k P) (markP k P) n) (hk0 : 0 ≤ k) (hk1 : k ≤ 1048576) (hn : n ≤ 1048576) (hl : ahead P n ≤ 1048576) :
    Calls Tryz.prog 115 #[.slice a n c, .int .i64 k] w fun e w' => e = .returned (.int .i64 (k + n + ahead P n)) ∧ Below w.heap.size w w' := by
  have HH := hide h
  clear h
  go_enter Tryz.func115, Tryz.ntmps115
  go_wp2
  go_loopw [1, 5] (fun q i wr => ∃ j : Nat, j ≤ n ∧ i = .int .i64 j ∧ q = .int .i64 (k + j + ahead P j) ∧ Below w.heap.size w wr) (fun _ i _ => n - (intOf i).toNat)
  case atStart => exact ⟨0, Nat.zero_le _, rfl, by simp [ahead], Below.refl _ _⟩
  case round =>
    obtain ⟨j, hj, rfl, rfl, hbel⟩ := hrel
    have HW := hide hbel
    clear hbel
    by_cases hlt : j < n
    · have hle := ahead_le P (i := j + 1) (j := n) (by omega)
      have hsu : ahead P (j + 1) = ahead P j + (P j).length := rfl
      have HSu := hide hsu
      simp only [ahead] at hle
      clear hsu
      obtain ⟨b, off, A, C, rfl, hb, hc⟩ := (HH.out.below HW.out) (by omega)
      obtain ⟨c0, c1, r1⟩ := hc j hlt
      simp only [markP, markD, marks_length] at c0 c1
      unfold markP at r1
      generalize A j = a1 at c1 r1
      generalize C j = d1 at c1
      generalize (P j).length = pl at *
      generalize ahead P j = A0 at *
      have R1 := hide r1
      clear hc r1
      go_wp2_with (first | (go_at_call 139; refine (heldByteS_any _ _ pl _ _ R1.out (by omega) (by omega) (by omega)).mono ?_; rintro e w1 ⟨rfl, rfl⟩))
      go_roundw
      case rel => exact ⟨j + 1, by omega, by go_num, by rw [HSu.out]; go_num, HW.out⟩
      case measure => simp [intOf]; omega
    · have hje : j = n := by omega
      subst hje
      go_wp2
      go_ret
      exact ⟨rfl, HW.out⟩

end Go.Proofs.YtfamiehfpmjljaaGreatDoor

namespace Go.Proofs.YtfamiehfpmjljaaGreatDoor
open Go.RowKit Go.Maps Go.Sort Go.Shelf
set_option linter.unusedVariables false
def Tryz.keysA_ren : Go.Shelf.Ren := ⟨fun | 7 => 118 | 10 => 144 | n => n, fun | 23 => 92 | 26 => 2 | 3 => 70 | 28 => 153 | 0 => 0 | 27 => 152 | 33 => 98 | 4 => 4 | n => n, fun | n => n⟩
theorem Tryz.keysA : Go.Proofs.SlLaysZI.n7 Tryz.prog Tryz.keysA_ren := {
  mixed := by kernel_rfl
  f7 := ⟨Tryz.f118.name, by decide, Tryz.func118.trans (congrArg some (by kernel_rfl))⟩
  f10 := ⟨Tryz.f144.name, by decide, Tryz.func144.trans (congrArg some (by kernel_rfl))⟩
  t0 := Tryz.underlying0
  a0 := Tryz.isAgg0
  z0 := Tryz.sizeOf0
  v0 := Tryz.zeroValue0
  t4 := Tryz.underlying4
  a4 := Tryz.isAgg4
  z4 := Tryz.sizeOf4
  v4 := Tryz.zeroValue4
  t23 := Tryz.underlying92
  a23 := Tryz.isAgg92
  z23 := Tryz.sizeOf92
  v23 := Tryz.zeroValue92
  t26 := Tryz.underlying2
  a26 := Tryz.isAgg2
  z26 := Tryz.sizeOf2
  v26 := Tryz.zeroValue2
  t27 := Tryz.underlying152
  a27 := Tryz.isAgg152
  z27 := Tryz.sizeOf152
  v27 := Tryz.zeroValue152
  t28 := Tryz.underlying153
  a28 := Tryz.isAgg153
  z28 := Tryz.sizeOf153
  v28 := Tryz.zeroValue153
  t33 := Tryz.underlying98
  a33 := Tryz.isAgg98
  z33 := Tryz.sizeOf98
  v33 := Tryz.zeroValue98 }
def Tryz.sortedA_ren : Go.Shelf.Ren := ⟨fun | 6 => 117 | 8 => 142 | 9 => 143 | 11 => 163 | 13 => 165 | 12 => 164 | 23 => 182 | 24 => 183 | 14 => 173 | 15 => 174 | 16 => 175 | 17 => 176 | 18 => 177 | 19 => 178 | 20 => 179 | 21 => 180 | 22 => 181 | 25 => 188 | 26 => 189 | 27 => 190 | 28 => 191 | 29 => 192 | 30 => 193 | 31 => 196 | n => n, fun | 26 => 2 | 28 => 153 | 24 => 25 | 0 => 0 | 3 => 3 | 37 => 88 | 48 => 87 | 50 => 244 | 4 => 4 | 40 => 235 | 39 => 234 | 45 => 240 | 5 => 5 | 9 => 9 | 51 => 248 | 55 => 252 | 57 => 254 | 58 => 255 | 33 => 98 | n => n, fun | n => n⟩
theorem Tryz.sortedA : Go.Proofs.SlLaysZI.n6 Tryz.prog Tryz.sortedA_ren := {
  mixed := by kernel_rfl
  f6 := ⟨Tryz.f117.name, by decide, Tryz.func117.trans (congrArg some (by kernel_rfl))⟩
  f8 := ⟨Tryz.f142.name, by decide, Tryz.func142.trans (congrArg some (by kernel_rfl))⟩
  f11 := ⟨Tryz.f163.name, by decide, Tryz.func163.trans (congrArg some (by kernel_rfl))⟩
  t0 := Tryz.underlying0
  a0 := Tryz.isAgg0
  z0 := Tryz.sizeOf0
  v0 := Tryz.zeroValue0
  t24 := Tryz.underlying25
  a24 := Tryz.isAgg25
  z24 := Tryz.sizeOf25
  v24 := Tryz.zeroValue25
  t26 := Tryz.underlying2
  a26 := Tryz.isAgg2
  z26 := Tryz.sizeOf2
  v26 := Tryz.zeroValue2
  t28 := Tryz.underlying153
  a28 := Tryz.isAgg153
  z28 := Tryz.sizeOf153
  v28 := Tryz.zeroValue153
  i26 := by kernel_rfl }
def Tryz.sortA_ren : Go.Shelf.Ren := ⟨fun | 5 => 143 | 8 => 165 | 7 => 164 | 19 => 182 | 20 => 183 | 10 => 173 | 11 => 174 | 12 => 175 | 13 => 176 | 14 => 177 | 15 => 178 | 16 => 179 | 17 => 180 | 18 => 181 | 30 => 188 | 31 => 189 | 32 => 190 | 33 => 191 | 34 => 192 | 35 => 193 | 40 => 196 | n => n, fun | 23 => 25 | 25 => 2 | 3 => 3 | 32 => 88 | 22 => 25 | 0 => 0 | 44 => 87 | 46 => 244 | 4 => 4 | 36 => 235 | 35 => 234 | 41 => 240 | 5 => 5 | 9 => 9 | 53 => 248 | 57 => 252 | 63 => 254 | 64 => 255 | n => n, fun | n => n⟩
theorem Tryz.sortA : Go.Proofs.SlLaysM.n5 Tryz.prog Tryz.sortA_ren := {
  mixed := by kernel_rfl
  f5 := ⟨Tryz.f143.name, by decide, Tryz.func143.trans (congrArg some (by kernel_rfl))⟩
  f7 := ⟨Tryz.f164.name, by decide, Tryz.func164.trans (congrArg some (by kernel_rfl))⟩
  f8 := Tryz.func165.trans (congrArg some (by kernel_rfl))
  f10 := ⟨Tryz.f173.name, by decide, Tryz.func173.trans (congrArg some (by kernel_rfl))⟩
  f11 := ⟨Tryz.f174.name, by decide, Tryz.func174.trans (congrArg some (by kernel_rfl))⟩
  f12 := ⟨Tryz.f175.name, by decide, Tryz.func175.trans (congrArg some (by kernel_rfl))⟩
  f13 := ⟨Tryz.f176.name, by decide, Tryz.func176.trans (congrArg some (by kernel_rfl))⟩
  f14 := ⟨Tryz.f177.name, by decide, Tryz.func177.trans (congrArg some (by kernel_rfl))⟩
  f15 := ⟨Tryz.f178.name, by decide, Tryz.func178.trans (congrArg some (by kernel_rfl))⟩
  f16 := ⟨Tryz.f179.name, by decide, Tryz.func179.trans (congrArg some (by kernel_rfl))⟩
  f17 := ⟨Tryz.f180.name, by decide, Tryz.func180.trans (congrArg some (by kernel_rfl))⟩
  f18 := ⟨Tryz.f181.name, by decide, Tryz.func181.trans (congrArg some (by kernel_rfl))⟩
  f19 := Tryz.func182.trans (congrArg some (by kernel_rfl))
  f20 := Tryz.func183.trans (congrArg some (by kernel_rfl))
  f30 := ⟨Tryz.f188.name, by decide, Tryz.func188.trans (congrArg some (by kernel_rfl))⟩
  f31 := Tryz.func189.trans (congrArg some (by kernel_rfl))
  f32 := Tryz.func190.trans (congrArg some (by kernel_rfl))
  f33 := ⟨Tryz.f191.name, by decide, Tryz.func191.trans (congrArg some (by kernel_rfl))⟩
  f34 := ⟨Tryz.f192.name, by decide, Tryz.func192.trans (congrArg some (by kernel_rfl))⟩
  f35 := ⟨Tryz.f193.name, by decide, Tryz.func193.trans (congrArg some (by kernel_rfl))⟩
  f40 := ⟨Tryz.f196.name, by decide, Tryz.func196.trans (congrArg some (by kernel_rfl))⟩
  t0 := Tryz.underlying0
  a0 := Tryz.isAgg0
  z0 := Tryz.sizeOf0
  v0 := Tryz.zeroValue0
  t3 := Tryz.underlying3
  a3 := Tryz.isAgg3
  z3 := Tryz.sizeOf3
  v3 := Tryz.zeroValue3
  t4 := Tryz.underlying4
  a4 := Tryz.isAgg4
  z4 := Tryz.sizeOf4
  v4 := Tryz.zeroValue4
  t5 := Tryz.underlying5
  a5 := Tryz.isAgg5
  z5 := Tryz.sizeOf5
  v5 := Tryz.zeroValue5
  t9 := Tryz.underlying9
  a9 := Tryz.isAgg9
  z9 := Tryz.sizeOf9
  v9 := Tryz.zeroValue9
  t22 := Tryz.underlying25
  a22 := Tryz.isAgg25
  z22 := Tryz.sizeOf25
  v22 := Tryz.zeroValue25
  t23 := Tryz.underlying25
  a23 := Tryz.isAgg25
  z23 := Tryz.sizeOf25
  v23 := Tryz.zeroValue25
  t25 := Tryz.underlying2
  a25 := Tryz.isAgg2
  z25 := Tryz.sizeOf2
  v25 := Tryz.zeroValue2
  t32 := Tryz.underlying88
  a32 := Tryz.isAgg88
  z32 := Tryz.sizeOf88
  v32 := Tryz.zeroValue88
  t35 := Tryz.underlying234
  a35 := Tryz.isAgg234
  z35 := Tryz.sizeOf234
  v35 := Tryz.zeroValue234
  t36 := Tryz.underlying235
  a36 := Tryz.isAgg235
  z36 := Tryz.sizeOf235
  v36 := Tryz.zeroValue235
  t41 := Tryz.underlying240
  a41 := Tryz.isAgg240
  z41 := Tryz.sizeOf240
  v41 := Tryz.zeroValue240
  t44 := Tryz.underlying87
  a44 := Tryz.isAgg87
  z44 := Tryz.sizeOf87
  v44 := Tryz.zeroValue87
  t46 := Tryz.underlying244
  a46 := Tryz.isAgg244
  z46 := Tryz.sizeOf244
  v46 := Tryz.zeroValue244
  t53 := Tryz.underlying248
  a53 := Tryz.isAgg248
  z53 := Tryz.sizeOf248
  v53 := Tryz.zeroValue248
  t57 := Tryz.underlying252
  a57 := Tryz.isAgg252
  z57 := Tryz.sizeOf252
  v57 := Tryz.zeroValue252
  t63 := Tryz.underlying254
  a63 := Tryz.isAgg254
  z63 := Tryz.sizeOf254
  v63 := Tryz.zeroValue254
  t64 := Tryz.underlying255
  a64 := Tryz.isAgg255
  z64 := Tryz.sizeOf255
  v64 := Tryz.zeroValue255 }
end Go.Proofs.YtfamiehfpmjljaaGreatDoor

