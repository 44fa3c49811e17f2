/-
  The program's entry laid over a tree.
-/
import Derived.Test.YtjkmbicedbdifaaGreatMerP
namespace Go.Proofs.YtjkmbicedbdifaaGreat
open Go.RowKit Go.Maps
set_option linter.unusedVariables false
attribute [local go_sem ↓] Go.wp_at_zero Go.wp_at_succ

theorem any_hasDir (es : List En) (p : Bs) : (es.any fun e => decide (e.path = p) && dirK e.kind) = hasDir es p := rfl
theorem asFileDir (v : Value) (W : World) : (Instr.typeAssert (.iface 140 v) 107 139 true).run Tryz.prog W = .ok (.tuple #[.agg #[.int .i64 0, .slice none 0 0, .string ⟨#[]⟩, .int .i64 0], .bool false]) W := by kernel_rfl
theorem asFileWhite (v : Value) (W : World) : (Instr.typeAssert (.iface 140 v) 107 136 true).run Tryz.prog W = .ok (.tuple #[.agg #[.int .i64 0, .slice none 0 0, .string ⟨#[]⟩, .int .i64 0], .bool false]) W := by kernel_rfl
theorem asFileOpaque (v : Value) (W : World) : (Instr.typeAssert (.iface 140 v) 107 137 true).run Tryz.prog W = .ok (.tuple #[.agg #[.int .i64 0, .slice none 0 0, .string ⟨#[]⟩, .int .i64 0], .bool false]) W := by kernel_rfl
theorem asDirDir (v : Value) (W : World) : (Instr.typeAssert (.iface 139 v) 107 139 true).run Tryz.prog W = .ok (.tuple #[v, .bool true]) W := by kernel_rfl
theorem asDirWhite (v : Value) (W : World) : (Instr.typeAssert (.iface 139 v) 107 136 true).run Tryz.prog W = .ok (.tuple #[.agg #[.int .i64 0, .slice none 0 0, .string ⟨#[]⟩, .int .i64 0], .bool false]) W := by kernel_rfl
theorem asDirOpaque (v : Value) (W : World) : (Instr.typeAssert (.iface 139 v) 107 137 true).run Tryz.prog W = .ok (.tuple #[.agg #[.int .i64 0, .slice none 0 0, .string ⟨#[]⟩, .int .i64 0], .bool false]) W := by kernel_rfl
theorem asWhiteDir (v : Value) (W : World) : (Instr.typeAssert (.iface 136 v) 107 139 true).run Tryz.prog W = .ok (.tuple #[.agg #[.int .i64 0, .slice none 0 0, .string ⟨#[]⟩, .int .i64 0], .bool false]) W := by kernel_rfl
theorem asWhiteWhite (v : Value) (W : World) : (Instr.typeAssert (.iface 136 v) 107 136 true).run Tryz.prog W = .ok (.tuple #[v, .bool true]) W := by kernel_rfl
theorem asWhiteOpaque (v : Value) (W : World) : (Instr.typeAssert (.iface 136 v) 107 137 true).run Tryz.prog W = .ok (.tuple #[.agg #[.int .i64 0, .slice none 0 0, .string ⟨#[]⟩, .int .i64 0], .bool false]) W := by kernel_rfl
theorem asOpaqueDir (v : Value) (W : World) : (Instr.typeAssert (.iface 137 v) 107 139 true).run Tryz.prog W = .ok (.tuple #[.agg #[.int .i64 0, .slice none 0 0, .string ⟨#[]⟩, .int .i64 0], .bool false]) W := by kernel_rfl
theorem asOpaqueWhite (v : Value) (W : World) : (Instr.typeAssert (.iface 137 v) 107 136 true).run Tryz.prog W = .ok (.tuple #[.agg #[.int .i64 0, .slice none 0 0, .string ⟨#[]⟩, .int .i64 0], .bool false]) W := by kernel_rfl
theorem asOpaqueOpaque (v : Value) (W : World) : (Instr.typeAssert (.iface 137 v) 107 137 true).run Tryz.prog W = .ok (.tuple #[v, .bool true]) W := by kernel_rfl
theorem entry_any (p : ByteArray) (k z : Int) (a : Option Addr) (n c : Nat) (w : World) :
    Calls Tryz.prog 201 #[.agg #[.int .i64 z, .slice a n c, .string p, .int .i64 k]] w fun r w' => r = .returned (.agg #[.int .i64 z, .slice a n c, .string p, .int .i64 k]) ∧ Below w.heap.size w w' := by
  obtain ⟨⟨q0, q1, q2, q3⟩, tf⟩ := Box4.new (w.alloc (.cells #[.int .i64 z, .slice a n c, .string p, .int .i64 k] 64)) (.int .i64 0) (.slice none 0 0) (.string ⟨#[]⟩) (.int .i64 0) 64
  go_enter Tryz.func201, Tryz.ntmps201
  go_wp2_with fail
  exact bodyPost_ret (v := .agg #[.int .i64 z, .slice a n c, .string p, .int .i64 k]) (by simp [results, Tryz.results201, go_sem]) rfl ⟨rfl, below_next (below_alloc _ _) (below_alloc _ _)⟩
set_option maxRecDepth 100000 in
set_option maxHeartbeats 3200000 in
theorem laidOver_any (a : Option Addr) (c n : Nat) (es : List En) (e : En) (x : Option Addr) (cc : Nat) (w : World) (h : RdI w a es) (hn : n = es.length) (hl : es.length ≤ 1048575) (hF : FitT es) (he : entFault e = 0) (hx : Reads .i64 w x e.chunks) :
    Calls Tryz.prog 68 #[.slice a n c, saidV e x cc] w fun r w' => ∃ av cv, r = .returned (.slice av (overE es e).length cv) ∧ RdI w' av (overE es e) ∧ Below w.heap.size w w' := by
  subst hn
  have hp := entFault_zero he
  have HR := hide h
  have HX := hide hx
  have HF := hide hF
  have HS := hide hF.fit.small
  have HE := hide (show saidV e x cc = .iface (saidT e.kind) (.agg #[.int .i64 e.size, .slice x e.chunks.length cc, .string (str e.path), .int .i64 e.kind]) from rfl)
  rw [HE.out]
  clear h hx hF HE
  rcases ent_kinds he with hk | hk | hk | hk
  · -- a file
    have HO := hide (show overE es e = putAt (restE es e.path true) e from by simp [overE, hk, asT])
    have hst : saidT e.kind = 140 := by rw [hk]; rfl
    have hw := asFileWhite
    have ho := asFileOpaque
    have hd := asFileDir
    have hsz : ∀ (h : 64 < Tryz.prog.types.size), (Tryz.prog.types[64]'h).size = 4 := fun _ => by kernel_rfl
    have HP := hide (fun (u : World) (hb : Below w.heap.size w u) => inPlace_any a c es.length es e x cc u (HR.out.below hb) rfl hl HF.out.fit hp (HX.out.below hb))
    rw [hst, HO.out]
    rw [hk] at HP ⊢
    generalize putAt (restE es e.path true) e = OL at *
    clear hk hst HO
    go_enter Tryz.func68, Tryz.ntmps68
    go_wp2_with fail
    refine (entry_any (str e.path) 1 e.size x e.chunks.length cc _).mono ?_
    rintro r w1 ⟨rfl, hb1⟩
    have B1 := hide hb1
    clear hb1
    go_wp2_with fail
    refine (HP.out _ B1.out).mono ?_
    rintro r w2 ⟨g, cv, rfl, hri, hb2⟩
    have RI := hide hri
    have B2 := hide (below_next B1.out hb2)
    clear hri hb2
    go_wp2_with fail
    go_ret
    exact ⟨_, cv, rfl, RI.out, B2.out⟩
  · -- a directory
    have hst : saidT e.kind = 139 := by rw [hk]; rfl
    have hw := asDirWhite
    have ho := asDirOpaque
    have hd := asDirDir
    have HP := hide (fun (u : World) (hb : Below w.heap.size w u) => inPlace_any a c es.length es e x cc u (HR.out.below hb) rfl hl HF.out.fit hp (HX.out.below hb))
    have HO := hide (show overE es e = if hasDir es e.path = true then es else putAt (restE es e.path true) e from by simp [overE, hk, asT])
    have A1 := hide (below_alloc w (.cells #[.int .i64 e.size, .slice x e.chunks.length cc, .string (str e.path), .int .i64 2] 139))
    have F1 := hide (Four.new w (.int .i64 e.size) (.slice x e.chunks.length cc) (.string (str e.path)) (.int .i64 2) 139)
    cases hdir : hasDir es e.path
    · rw [hdir, if_neg Bool.false_ne_true] at HO
      rw [hst, HO.out]
      rw [hk] at HP ⊢
      generalize putAt (restE es e.path true) e = OL at *
      clear hk hst HO
      go_enter Tryz.func68, Tryz.ntmps68
      go_wp2_with fail
      generalize w.alloc (.cells #[.int .i64 e.size, .slice x e.chunks.length cc, .string (str e.path), .int .i64 2] 139) = W1 at *
      refine (isDirAt_any e.path _).mono ?_
      rintro r w2 ⟨rfl, hb2, hA⟩
      have HA := hide hA
      have B2 := hide (below_next A1.out hb2)
      have F2 := hide (F1.out.below hb2)
      clear hA hb2
      go_wp2_with fail
      refine (hasI_any a c es.length es _ _ _ _ (HR.out.below B2.out) rfl (by omega) HS.out HA.out).mono ?_
      rw [any_hasDir, hdir]
      rintro r w3 ⟨rfl, hb3⟩
      have B3 := hide (below_next B2.out hb3)
      obtain ⟨q0, q1, q2, q3⟩ := F2.out.below hb3
      clear hb3
      go_wp2_with fail
      refine (HP.out _ B3.out).mono ?_
      rintro r w4 ⟨g, cv, rfl, hri, hb4⟩
      have RI := hide hri
      have B4 := hide (below_next B3.out hb4)
      clear hri hb4
      go_wp2_with fail
      go_ret
      exact ⟨_, cv, rfl, RI.out, B4.out⟩
    · rw [hdir, if_pos rfl] at HO
      rw [hst, HO.out]
      rw [hk]
      clear hk hst HO
      go_enter Tryz.func68, Tryz.ntmps68
      go_wp2_with fail
      generalize w.alloc (.cells #[.int .i64 e.size, .slice x e.chunks.length cc, .string (str e.path), .int .i64 2] 139) = W1 at *
      refine (isDirAt_any e.path _).mono ?_
      rintro r w2 ⟨rfl, hb2, hA⟩
      have HA := hide hA
      have B2 := hide (below_next A1.out hb2)
      clear hA hb2
      go_wp2_with fail
      refine (hasI_any a c es.length es _ _ _ _ (HR.out.below B2.out) rfl (by omega) HS.out HA.out).mono ?_
      rw [any_hasDir, hdir]
      rintro r w3 ⟨rfl, hb3⟩
      have B3 := hide (below_next B2.out hb3)
      clear hb3
      go_wp2_with fail
      go_ret
      exact ⟨a, c, rfl, HR.out.below B3.out, B3.out⟩
  · -- a white
    have hst : saidT e.kind = 136 := by rw [hk]; rfl
    have hw := asWhiteWhite
    have ho := asWhiteOpaque
    have hd := asWhiteDir
    have HO := hide (show overE es e = es.filter fun y => !(atBelow y.path e.path) from by rw [restP_eq (fun y hy => HF.out.fit.path hy) hp]; simp [overE, hk])
    rw [hst, HO.out]
    rw [hk]
    clear hk hst HO
    have A1 := hide (below_alloc w (.cells #[.int .i64 e.size, .slice x e.chunks.length cc, .string (str e.path), .int .i64 3] 136))
    go_enter Tryz.func68, Tryz.ntmps68
    go_wp2_with fail
    generalize w.alloc (.cells #[.int .i64 e.size, .slice x e.chunks.length cc, .string (str e.path), .int .i64 3] 136) = W1 at *
    refine (isUnder_any e.path _).mono ?_
    rintro r w2 ⟨rfl, hb2, hA⟩
    have HA := hide hA
    have B2 := hide (below_next A1.out hb2)
    clear hA hb2
    go_wp2_with fail
    refine (without_any a c es.length es _ _ _ _ (HR.out.below B2.out) rfl (by omega) HS.out HA.out).mono ?_
    rintro r w3 ⟨av3, cv3, v3, rfl, hL3, hb3, hb3'⟩
    have B3 := hide (below_next (below_next B2.out hb3) hb3')
    have RI3 := hide (hL3.rd hb3')
    clear hL3 hb3 hb3'
    go_wp2_with fail
    go_ret
    exact ⟨av3, cv3, rfl, RI3.out, B3.out⟩
  · -- kind 4
    have hst : saidT e.kind = 137 := by rw [hk]; rfl
    have hw := asOpaqueWhite
    have ho := asOpaqueOpaque
    have hd := asOpaqueDir
    have HO := hide (show overE es e = putAt (restE es e.path true) (kindE e 2) from by simp [overE, hk, asT])
    have HP := hide (fun (u : World) (hb : Below w.heap.size w u) => inPlace_any a c es.length es (kindE e 2) x cc u (HR.out.below hb) rfl hl HF.out.fit hp (HX.out.below hb))
    have e0 : (kindE e 2).path = e.path := rfl
    have e1 : (kindE e 2).size = e.size := rfl
    have e2 : (kindE e 2).chunks = e.chunks := rfl
    have e3 : (kindE e 2).kind = 2 := rfl
    rw [e0, e1, e2, e3] at HP
    rw [hst, HO.out]
    rw [hk]
    generalize putAt (restE es e.path true) (kindE e 2) = OL at *
    clear hk hst HO e0 e1 e2 e3
    have A1 := hide (below_alloc w (.cells #[.int .i64 e.size, .slice x e.chunks.length cc, .string (str e.path), .int .i64 2] 137))
    go_enter Tryz.func68, Tryz.ntmps68
    go_wp2_with fail
    refine (HP.out _ A1.out).mono ?_
    rintro r w2 ⟨g, cv, rfl, hri, hb2⟩
    have RI := hide hri
    have B2 := hide (below_next A1.out hb2)
    clear hri hb2
    go_wp2_with fail
    go_ret
    exact ⟨_, cv, rfl, RI.out, B2.out⟩
end Go.Proofs.YtjkmbicedbdifaaGreat
