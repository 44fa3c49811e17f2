/-
  Texts put together: MntC MntD.
-/
import Derived.Test.YtebgfaohhhgdpaaGreatKMounts15
import Derived.Test.YtebgfaohhhgdpaaGreatKMounts18
import Derived.Test.YtebgfaohhhgdpaaGreatKMounts19
namespace Go.Proofs.YtebgfaohhhgdpaaGreat
open Go.RowKit Go.Maps
set_option linter.unusedVariables false
attribute [local go_sem ↓] Go.wp_at_zero Go.wp_at_succ

def dirQ (q : Bs) : En := ⟨q, 2, 0, []⟩
def needsU (U : List En) (e : En) : Bool := !decide (parentP e.path = []) && (findE U (parentP e.path)).isNone
def filR : Nat → List En → En → Int × List En
  | 0, U, e => (putCodeP U e, putListP U e)
  | n + 1, U, e => if needsU U e = true then (if (filR n U (dirQ (parentP e.path))).1 = 0 then (putCodeP (filR n U (dirQ (parentP e.path))).2 e, putListP (filR n U (dirQ (parentP e.path))).2 e) else filR n U (dirQ (parentP e.path))) else (putCodeP U e, putListP U e)
theorem filR_none {n : Nat} {U : List En} {e : En} (h : needsU U e = false) : filR n U e = (putCodeP U e, putListP U e) := by
  cases n <;> simp [filR, h]
theorem filR_put {n : Nat} {U : List En} {e : En} (h : needsU U e = true) (h0 : (filR n U (dirQ (parentP e.path))).1 = 0) : filR (n + 1) U e = (putCodeP (filR n U (dirQ (parentP e.path))).2 e, putListP (filR n U (dirQ (parentP e.path))).2 e) := by simp [filR, h, h0]
theorem filR_bad {n : Nat} {U : List En} {e : En} (h : needsU U e = true) (h0 : (filR n U (dirQ (parentP e.path))).1 ≠ 0) : filR (n + 1) U e = filR n U (dirQ (parentP e.path)) := by simp [filR, h, h0]
theorem filR_zero : ∀ {n : Nat} {U : List En} {e : En}, (filR n U e).1 = 0 → Right (filR n U e).2 ∧ SmallE (filR n U e).2
  | 0, U, e, h => by
    have h1 := putP_zero (show putCodeP U e = 0 from h)
    have h2 : (filR 0 U e).2 = putE U e := by show putListP U e = _; rw [putListP, if_pos (show putCodeP U e = 0 from h)]
    rw [h2]
    exact ⟨h1.2.2.2.2, right_small h1.2.2.2.2⟩
  | n + 1, U, e, h => by
    have key : ∀ {L : List En}, putCodeP L e = 0 → Right (putListP L e) ∧ SmallE (putListP L e) := fun {L} hL => by
      have h1 := putP_zero hL
      rw [putListP, if_pos hL]
      exact ⟨h1.2.2.2.2, right_small h1.2.2.2.2⟩
    cases hn : needsU U e
    · rw [filR_none hn] at h ⊢
      exact key h
    · by_cases h0 : (filR n U (dirQ (parentP e.path))).1 = 0
      · rw [filR_put hn h0] at h ⊢
        exact key h
      · rw [filR_bad hn h0] at h
        exact absurd h h0

set_option maxRecDepth 100000 in
set_option maxHeartbeats 1600000 in
theorem fillLit_put (R b : Nat) (av : Option Addr) (n cv : Nat) (L : List En) (e : En) (x : Option Addr) (cc : Nat) (u : FrameMode) (w : World) (hX : Box w R (.int .i64 0) (.slice av n cv)) (hF : Four w b (.string (str e.path)) (.int .i64 e.kind) (.int .i64 e.size) (.slice x e.chunks.length cc))
    (h : RdE w av L) (hn : n = L.length) (hl : L.length ≤ 1048576) (hs : SmallE L) (hr : Reads .i64 w x e.chunks) (hp : e.path.length ≤ 1048576) (hcl : e.chunks.length ≤ 1048576) :
    CallsD Tryz.prog 132 #[.pointer (some ⟨R, 0, none⟩), .pointer (some ⟨b, 0, none⟩)] u w fun r u' w' => u' = u ∧ (r = .returned (.tuple #[]) ∧ ∃ w1 av1 cv1, Below w.heap.size w w1 ∧ GE w.heap.size w1.heap.size w1 (.slice av1 (putListP L e).length cv1) (putListP L e) ∧ w' = (w1.setCell ⟨R, 0, none⟩ (.int .i64 (putCodeP L e))).setCell ⟨R, 1, none⟩ (.slice av1 (putListP L e).length cv1)) := by
  subst hn
  have HP := hide (implPutEntry_any av cv L.length L e x e.chunks.length cc w h rfl hl hs rfl hr hp hcl)
  have HX := hide hX
  obtain ⟨⟨t0, t1⟩, t2, t3⟩ := hX
  obtain ⟨f0, f1, f2, f3⟩ := hF
  clear h hs hr
  go_enter_d Tryz.func132, Tryz.ntmps132
  go_wp2_with fail
  refine HP.out.mono ?_
  rintro r w1 ⟨av1, cv1, rfl, hG, hb1⟩
  have G1 := hide hG
  have B1 := hide hb1
  clear t0 t1 t2 t3 f0 f1 f2 f3
  obtain ⟨⟨t0, t1⟩, t2, t3⟩ := HX.out.below hb1
  clear hG hb1
  go_wp2_with fail
  exact ⟨rfl, .tuple #[], by simp [results, Tryz.results132], rfl, w1, av1, cv1, B1.out, G1.out, rfl⟩
set_option maxRecDepth 100000 in
set_option maxHeartbeats 1600000 in
theorem fillLit_skip (R b : Nat) (q : Int) (v : Value) (u : FrameMode) (w : World) (hX : Box w R (.int .i64 q) v) (hq : q ≠ 0) :
    CallsD Tryz.prog 132 #[.pointer (some ⟨R, 0, none⟩), .pointer (some ⟨b, 0, none⟩)] u w fun r u' w' => u' = u ∧ (r = .returned (.tuple #[]) ∧ w' = w) := by
  obtain ⟨⟨t0, t1⟩, t2, t3⟩ := hX
  have hq2 : (q == 0) = false := by simpa using hq
  clear hq
  go_enter_d Tryz.func132, Tryz.ntmps132
  go_wp2_with fail
  exact ⟨rfl, .tuple #[], by simp [results, Tryz.results132], rfl, rfl⟩
theorem ge_box {B T : Nat} {w : World} {b : Nat} {u v : Value} {av : Option Addr} {n cv : Nat} {L : List En} (h : GE B T w (.slice av n cv) L) (hb : b < B) : GE B T ((w.setCell ⟨b, 0, none⟩ u).setCell ⟨b, 1, none⟩ v) (.slice av n cv) L := h.kept (Kept.two w b 0 1 u v) (fun x hx _ e => by omega)
theorem parN {e : En} {n : Nat} (hp : faultP e.path = 0) (h0 : parentP e.path ≠ []) (hn : (above e.path).length = n + 1) : (above (parentP e.path)).length = n := by
  have h1 := above_kid hp rfl
  rw [if_neg h0] at h1
  rw [h1, List.length_append] at hn
  simpa using hn
theorem parU_none {e : En} (hp : faultP e.path = 0) (hn : (above e.path).length = 0) : parentP e.path = [] := by
  by_cases h0 : parentP e.path = []
  · exact h0
  · have h1 := above_kid hp rfl
    rw [if_neg h0] at h1
    rw [h1] at hn
    simp at hn
theorem four_kept {S : Nat → Prop} {w w' : World} {b : Nat} {u0 u1 u2 u3 : Value} (h : Four w b u0 u1 u2 u3) (hk : Kept S w w') (hn : ¬ S b) : Four w' b u0 u1 u2 u3 :=
  ⟨(hk.cell (p := ⟨b, 0, none⟩) h.lt hn).trans h.1, (hk.cell (p := ⟨b, 1, none⟩) h.lt hn).trans h.2.1, (hk.cell (p := ⟨b, 2, none⟩) h.lt hn).trans h.2.2.1, (hk.cell (p := ⟨b, 3, none⟩) h.lt hn).trans h.2.2.2⟩
theorem boxC_two {w : World} {B : Nat} {u v : Value} (h : Box w B u v) (u' v' : Value) : Box ((w.setCell ⟨B, 0, none⟩ u').setCell ⟨B, 1, none⟩ v') B u' v' := by
  obtain ⟨⟨m0, m1⟩, m2, m3⟩ := h
  refine ⟨⟨?_, ?_⟩, ?_, ?_⟩
  · rw [cell_set_other (by simp)]; exact cell_set_same m0
  · exact cell_set_same (u := v) (by rw [cell_set_other (by simp)]; exact m1)
  · rw [World.frozen?_setCell, World.frozen?_setCell]; exact m2
  · rw [World.frozen?_setCell, World.frozen?_setCell]; exact m3
set_option maxRecDepth 100000 in
set_option maxHeartbeats 3200000 in
theorem filledUp_top (a : Option Addr) (c : Nat) (U : List En) (hR : Right U) (e : En) (x : Option Addr) (cc : Nat) (w : World) (hp : faultP e.path = 0) (h : RdE w a U) (hx : Reads .i64 w x e.chunks) (hpl : e.path.length ≤ 1048576) (hcl : e.chunks.length ≤ 1048576) (h0 : parentP e.path = []) :
    Calls Tryz.prog 81 #[.slice a U.length c, .agg #[.string (str e.path), .int .i64 e.kind, .int .i64 e.size, .slice x e.chunks.length cc]] w (ResE (putCodeP U e) (putListP U e) w) := by
  have hmf : ∀ (fn : Fn) (first cap : Array Value) (w : World), (Instr.makeFunc fn first cap).run Tryz.prog w = .ok (.func fn first cap) w := fun _ _ _ _ => rfl
  have hsz := str_size e.path
  have HPO : Hid (∀ u : World, Calls Tryz.prog 129 #[.string (str e.path)] u fun r w' => r = .returned (.agg #[.int .i64 (parC e.path), .string (str (parT e.path))]) ∧ Below u.heap.size u w') := hide (fun u => by have h1 := implParentOf_any (str e.path) u (by omega); rw [str_data] at h1; exact h1)
  have hlU := hR.len
  have HSU := hide (right_small hR)
  have HR0 := hide h
  have HX0 := hide hx
  have B0 := hide (below_next (below_alloc w (.cells #[.string (str e.path), .int .i64 e.kind, .int .i64 e.size, .slice x e.chunks.length cc] 53)) (below_alloc (w.alloc (.cells #[.string (str e.path), .int .i64 e.kind, .int .i64 e.size, .slice x e.chunks.length cc] 53)) (.cells #[.int .i64 0, .slice none 0 0] 42)))
  have FE0 := hide ((Four.new w (.string (str e.path)) (.int .i64 e.kind) (.int .i64 e.size) (.slice x e.chunks.length cc) 53).below (below_alloc (w.alloc (.cells #[.string (str e.path), .int .i64 e.kind, .int .i64 e.size, .slice x e.chunks.length cc] 53)) (.cells #[.int .i64 0, .slice none 0 0] 42)))
  have BX0 := hide (Box.new (w.alloc (.cells #[.string (str e.path), .int .i64 e.kind, .int .i64 e.size, .slice x e.chunks.length cc] 53)) (.int .i64 0) (.slice none 0 0) 42)
  have hsA : (w.alloc (.cells #[.string (str e.path), .int .i64 e.kind, .int .i64 e.size, .slice x e.chunks.length cc] 53)).heap.size = w.heap.size + 1 := by simp
  rw [hsA] at BX0
  have hs0 : ((w.alloc (.cells #[.string (str e.path), .int .i64 e.kind, .int .i64 e.size, .slice x e.chunks.length cc] 53)).alloc (.cells #[.int .i64 0, .slice none 0 0] 42)).heap.size = w.heap.size + 2 := by simp
  clear h hx hsA
  rw [parC_right hp, if_pos h0] at HPO
  go_enter_defers Tryz.func81, Tryz.ntmps81
  obtain ⟨f0, f1, f2, f3⟩ := FE0.out
  go_wp2_with fail
  clear f0 f1 f2 f3
  generalize ((w.alloc (.cells #[.string (str e.path), .int .i64 e.kind, .int .i64 e.size, .slice x e.chunks.length cc] 53)).alloc (.cells #[.int .i64 0, .slice none 0 0] 42)) = W0 at *
  refine (HPO.out W0).mono ?_
  rintro r w1 ⟨rfl, hb1⟩
  generalize parT e.path = PT at *
  have A1 := hide (below_next hb1 (below_alloc w1 (.cells #[.int .i64 4, .string (str PT)] 147)))
  have T1 := hide (Box.new w1 (.int .i64 4) (.string (str PT)) 147)
  have BX1 := hide (BX0.out.below A1.out)
  have FE1 := hide (FE0.out.below A1.out)
  have B1 := hide (below_next B0.out A1.out)
  have hs1 := A1.out.size
  clear hb1 HPO
  obtain ⟨⟨s0, s1⟩, s2, s3⟩ := T1.out
  obtain ⟨⟨t0, t1⟩, t2, t3⟩ := BX1.out
  go_wp2_with fail
  clear s0 s1 s2 s3 t0 t1 t2 t3
  generalize w1.alloc (.cells #[.int .i64 4, .string (str PT)] 147) = W1 at *
  have BX2 := hide (boxC_two BX1.out (.int .i64 0) (.slice a U.length c))
  have hne : w.heap.size ≠ w.heap.size + 1 := by omega
  have KT : Hid (Kept (fun b => b = w.heap.size + 1) W1 ((W1.setCell ⟨w.heap.size + 1, 0, none⟩ (.int .i64 0)).setCell ⟨w.heap.size + 1, 1, none⟩ (.slice a U.length c))) := hide (Kept.two W1 (w.heap.size + 1) 0 1 _ _)
  have hzW : ((W1.setCell ⟨w.heap.size + 1, 0, none⟩ (.int .i64 0)).setCell ⟨w.heap.size + 1, 1, none⟩ (.slice a U.length c)).heap.size = W1.heap.size := by simp [World.setCell]
  have BW : Hid (Below w.heap.size w ((W1.setCell ⟨w.heap.size + 1, 0, none⟩ (.int .i64 0)).setCell ⟨w.heap.size + 1, 1, none⟩ (.slice a U.length c))) := hide ((B1.out.setCell (p := ⟨w.heap.size + 1, 0, none⟩) (by show w.heap.size ≤ w.heap.size + 1; omega) _).setCell (p := ⟨w.heap.size + 1, 1, none⟩) (by show w.heap.size ≤ w.heap.size + 1; omega) _)
  have FE2 := hide (four_kept FE1.out KT.out hne)
  refine leaves_cons (f := 132) (args := #[.pointer (some ⟨w.heap.size + 1, 0, none⟩), .pointer (some ⟨w.heap.size, 0, none⟩)]) (by simp) (by simp [go_sem]) ?_
  generalize (W1.setCell ⟨w.heap.size + 1, 0, none⟩ (.int .i64 0)).setCell ⟨w.heap.size + 1, 1, none⟩ (.slice a U.length c) = W2 at *
  refine (fillLit_put (w.heap.size + 1) w.heap.size a U.length c U e x cc .returning W2 BX2.out FE2.out (HR0.out.below BW.out) rfl (by omega) HSU.out (HX0.out.below BW.out) hpl hcl).mono ?_
  rintro r u' w' ⟨rfl, rfl, w3, av3, cv3, hb3, hG3, rfl⟩
  have BX3 := BX2.out.below hb3
  obtain ⟨⟨t0, t1⟩, t2, t3⟩ := BX3
  have HF := hide (ResE.of (q := putCodeP U e) (w2 := w) (u := .int .i64 (putCodeP U e)) (v := .slice av3 (putListP U e).length cv3) (show w.heap.size + 1 < W2.heap.size by omega) (by omega) rfl hG3 (below_next BW.out hb3))
  simp [Leaves, settle, results, Tryz.results81, go_sem, t0, t1]
  exact HF.out
set_option maxRecDepth 100000 in
set_option maxHeartbeats 3200000 in
theorem filledUp_in (a : Option Addr) (c : Nat) (U : List En) (hR : Right U) (e : En) (x : Option Addr) (cc : Nat) (w : World) (hp : faultP e.path = 0) (h : RdE w a U) (hx : Reads .i64 w x e.chunks) (hpl : e.path.length ≤ 1048576) (hcl : e.chunks.length ≤ 1048576) (h0 : parentP e.path ≠ []) (d : En) (hd : findE U (parentP e.path) = some d) :
    Calls Tryz.prog 81 #[.slice a U.length c, .agg #[.string (str e.path), .int .i64 e.kind, .int .i64 e.size, .slice x e.chunks.length cc]] w (ResE (putCodeP U e) (putListP U e) w) := by
  have hmf : ∀ (fn : Fn) (first cap : Array Value) (w : World), (Instr.makeFunc fn first cap).run Tryz.prog w = .ok (.func fn first cap) w := fun _ _ _ _ => rfl
  have hsz := str_size e.path
  have HPO : Hid (∀ u : World, Calls Tryz.prog 129 #[.string (str e.path)] u fun r w' => r = .returned (.agg #[.int .i64 (parC e.path), .string (str (parT e.path))]) ∧ Below u.heap.size u w') := hide (fun u => by have h1 := implParentOf_any (str e.path) u (by omega); rw [str_data] at h1; exact h1)
  have hlU := hR.len
  have HSU := hide (right_small hR)
  have HR0 := hide h
  have HX0 := hide hx
  have B0 := hide (below_next (below_alloc w (.cells #[.string (str e.path), .int .i64 e.kind, .int .i64 e.size, .slice x e.chunks.length cc] 53)) (below_alloc (w.alloc (.cells #[.string (str e.path), .int .i64 e.kind, .int .i64 e.size, .slice x e.chunks.length cc] 53)) (.cells #[.int .i64 0, .slice none 0 0] 42)))
  have FE0 := hide ((Four.new w (.string (str e.path)) (.int .i64 e.kind) (.int .i64 e.size) (.slice x e.chunks.length cc) 53).below (below_alloc (w.alloc (.cells #[.string (str e.path), .int .i64 e.kind, .int .i64 e.size, .slice x e.chunks.length cc] 53)) (.cells #[.int .i64 0, .slice none 0 0] 42)))
  have BX0 := hide (Box.new (w.alloc (.cells #[.string (str e.path), .int .i64 e.kind, .int .i64 e.size, .slice x e.chunks.length cc] 53)) (.int .i64 0) (.slice none 0 0) 42)
  have hsA : (w.alloc (.cells #[.string (str e.path), .int .i64 e.kind, .int .i64 e.size, .slice x e.chunks.length cc] 53)).heap.size = w.heap.size + 1 := by simp
  rw [hsA] at BX0
  have hs0 : ((w.alloc (.cells #[.string (str e.path), .int .i64 e.kind, .int .i64 e.size, .slice x e.chunks.length cc] 53)).alloc (.cells #[.int .i64 0, .slice none 0 0] 42)).heap.size = w.heap.size + 2 := by simp
  clear h hx hsA
  rw [parC_right hp, if_neg h0, parT_right hp] at HPO
  obtain ⟨hpp, hpb⟩ := parent_above hp h0
  have hppl : (parentP e.path).length ≤ 1048576 := by have := below_len hpb; omega
  have HEA0 := hide (fun u (hu : Below w.heap.size w u) => implEntryAt_any a c U.length U (parentP e.path) u (HR0.out.below hu) rfl (by omega) HSU.out hppl)
  rw [show findCodeP U (parentP e.path) = 0 by rw [findCodeP, if_pos (askP_of hR hpp), hd]; rfl] at HEA0
  have HEA : Hid (∀ u : World, Below w.heap.size w u → Calls Tryz.prog 23 #[.slice a U.length c, .string (str (parentP e.path))] u fun r w' => ∃ lv ln lc, r = .returned (.agg #[.int .i64 0, .slice lv ln lc]) ∧ Below u.heap.size u w') := hide (fun u hu => (HEA0.out u hu).mono (fun r w' ⟨lv, lc, h2, _, h4⟩ => ⟨lv, _, lc, h2, h4⟩))
  have hfl : ∀ (w : World) (F : Int) (v : Value), (Instr.field 42 (.agg #[.int .i64 F, v]) 0).run Tryz.prog w = .ok (.int .i64 F) w := fun _ _ _ => by kernel_rfl
  clear HEA0 hd hpp hpb
  go_enter_defers Tryz.func81, Tryz.ntmps81
  obtain ⟨f0, f1, f2, f3⟩ := FE0.out
  go_wp2_with fail
  clear f0 f1 f2 f3
  generalize ((w.alloc (.cells #[.string (str e.path), .int .i64 e.kind, .int .i64 e.size, .slice x e.chunks.length cc] 53)).alloc (.cells #[.int .i64 0, .slice none 0 0] 42)) = W0 at *
  refine (HPO.out W0).mono ?_
  rintro r w1 ⟨rfl, hb1⟩
  generalize parentP e.path = PT at *
  have A1 := hide (below_next hb1 (below_alloc w1 (.cells #[.int .i64 0, .string (str PT)] 147)))
  have T1 := hide (Box.new w1 (.int .i64 0) (.string (str PT)) 147)
  have BX1 := hide (BX0.out.below A1.out)
  have FE1 := hide (FE0.out.below A1.out)
  have B1 := hide (below_next B0.out A1.out)
  have hs1 := A1.out.size
  clear hb1 HPO
  obtain ⟨⟨s0, s1⟩, s2, s3⟩ := T1.out
  obtain ⟨⟨t0, t1⟩, t2, t3⟩ := BX1.out
  go_wp2_with fail
  clear s0 s1 s2 s3 t0 t1 t2 t3
  generalize w1.alloc (.cells #[.int .i64 0, .string (str PT)] 147) = V1 at *
  generalize w1.heap.size = bT at *
  refine (HEA.out V1 B1.out).mono ?_
  rintro r W1 ⟨lv, ln, lc, rfl, hbE⟩
  have BX1' := hide (BX1.out.below hbE)
  have FE1' := hide (FE1.out.below hbE)
  have B1' := hide (below_next B1.out hbE)
  have T1' := hide (T1.out.below hbE)
  have hsE := hbE.size
  clear BX1 FE1 B1 hbE T1
  have BX1 := BX1'
  have FE1 := FE1'
  have B1 := B1'
  have T1 := T1'
  clear BX1' FE1' B1' T1'
  obtain ⟨⟨s0, s1⟩, s2, s3⟩ := T1.out
  obtain ⟨⟨t0, t1⟩, t2, t3⟩ := BX1.out
  go_wp2_with fail
  clear s0 s1 s2 s3 t0 t1 t2 t3
  have BX2 := hide (boxC_two BX1.out (.int .i64 0) (.slice a U.length c))
  have hne : w.heap.size ≠ w.heap.size + 1 := by omega
  have KT : Hid (Kept (fun b => b = w.heap.size + 1) W1 ((W1.setCell ⟨w.heap.size + 1, 0, none⟩ (.int .i64 0)).setCell ⟨w.heap.size + 1, 1, none⟩ (.slice a U.length c))) := hide (Kept.two W1 (w.heap.size + 1) 0 1 _ _)
  have hzW : ((W1.setCell ⟨w.heap.size + 1, 0, none⟩ (.int .i64 0)).setCell ⟨w.heap.size + 1, 1, none⟩ (.slice a U.length c)).heap.size = W1.heap.size := by simp [World.setCell]
  have BW : Hid (Below w.heap.size w ((W1.setCell ⟨w.heap.size + 1, 0, none⟩ (.int .i64 0)).setCell ⟨w.heap.size + 1, 1, none⟩ (.slice a U.length c))) := hide ((B1.out.setCell (p := ⟨w.heap.size + 1, 0, none⟩) (by show w.heap.size ≤ w.heap.size + 1; omega) _).setCell (p := ⟨w.heap.size + 1, 1, none⟩) (by show w.heap.size ≤ w.heap.size + 1; omega) _)
  have FE2 := hide (four_kept FE1.out KT.out hne)
  refine leaves_cons (f := 132) (args := #[.pointer (some ⟨w.heap.size + 1, 0, none⟩), .pointer (some ⟨w.heap.size, 0, none⟩)]) (by simp) (by simp [go_sem]) ?_
  generalize (W1.setCell ⟨w.heap.size + 1, 0, none⟩ (.int .i64 0)).setCell ⟨w.heap.size + 1, 1, none⟩ (.slice a U.length c) = W2 at *
  refine (fillLit_put (w.heap.size + 1) w.heap.size a U.length c U e x cc .returning W2 BX2.out FE2.out (HR0.out.below BW.out) rfl (by omega) HSU.out (HX0.out.below BW.out) hpl hcl).mono ?_
  rintro r u' w' ⟨rfl, rfl, w3, av3, cv3, hb3, hG3, rfl⟩
  have BX3 := BX2.out.below hb3
  obtain ⟨⟨t0, t1⟩, t2, t3⟩ := BX3
  have HF := hide (ResE.of (q := putCodeP U e) (w2 := w) (u := .int .i64 (putCodeP U e)) (v := .slice av3 (putListP U e).length cv3) (show w.heap.size + 1 < W2.heap.size by omega) (by omega) rfl hG3 (below_next BW.out hb3))
  simp [Leaves, settle, results, Tryz.results81, go_sem, t0, t1]
  exact HF.out
set_option maxRecDepth 100000 in
set_option maxHeartbeats 3200000 in
theorem filledUp_rec (a : Option Addr) (c : Nat) (U : List En) (hR : Right U) (e : En) (x : Option Addr) (cc : Nat) (w : World) (hp : faultP e.path = 0) (h : RdE w a U) (hx : Reads .i64 w x e.chunks) (hpl : e.path.length ≤ 1048576) (hcl : e.chunks.length ≤ 1048576) (h0 : parentP e.path ≠ []) (hd : findE U (parentP e.path) = none) (q q' : Int) (L L' : List En) (hqq : (q = 0 → q' = putCodeP L e ∧ L' = putListP L e) ∧ (q ≠ 0 → q' = q ∧ L' = L)) (hL : q = 0 → Right L ∧ SmallE L) (hrec : ∀ u : World, Below w.heap.size w u → Calls Tryz.prog 81 #[.slice a U.length c, .agg #[.string (str (parentP e.path)), .int .i64 2, .int .i64 0, .slice none 0 0]] u (ResE q L u)) :
    Calls Tryz.prog 81 #[.slice a U.length c, .agg #[.string (str e.path), .int .i64 e.kind, .int .i64 e.size, .slice x e.chunks.length cc]] w (ResE q' L' w) := by
  have hmf : ∀ (fn : Fn) (first cap : Array Value) (w : World), (Instr.makeFunc fn first cap).run Tryz.prog w = .ok (.func fn first cap) w := fun _ _ _ _ => rfl
  have hsz := str_size e.path
  have HPO : Hid (∀ u : World, Calls Tryz.prog 129 #[.string (str e.path)] u fun r w' => r = .returned (.agg #[.int .i64 (parC e.path), .string (str (parT e.path))]) ∧ Below u.heap.size u w') := hide (fun u => by have h1 := implParentOf_any (str e.path) u (by omega); rw [str_data] at h1; exact h1)
  have hlU := hR.len
  have HSU := hide (right_small hR)
  have HR0 := hide h
  have HX0 := hide hx
  have B0 := hide (below_next (below_alloc w (.cells #[.string (str e.path), .int .i64 e.kind, .int .i64 e.size, .slice x e.chunks.length cc] 53)) (below_alloc (w.alloc (.cells #[.string (str e.path), .int .i64 e.kind, .int .i64 e.size, .slice x e.chunks.length cc] 53)) (.cells #[.int .i64 0, .slice none 0 0] 42)))
  have FE0 := hide ((Four.new w (.string (str e.path)) (.int .i64 e.kind) (.int .i64 e.size) (.slice x e.chunks.length cc) 53).below (below_alloc (w.alloc (.cells #[.string (str e.path), .int .i64 e.kind, .int .i64 e.size, .slice x e.chunks.length cc] 53)) (.cells #[.int .i64 0, .slice none 0 0] 42)))
  have BX0 := hide (Box.new (w.alloc (.cells #[.string (str e.path), .int .i64 e.kind, .int .i64 e.size, .slice x e.chunks.length cc] 53)) (.int .i64 0) (.slice none 0 0) 42)
  have hsA : (w.alloc (.cells #[.string (str e.path), .int .i64 e.kind, .int .i64 e.size, .slice x e.chunks.length cc] 53)).heap.size = w.heap.size + 1 := by simp
  rw [hsA] at BX0
  have hs0 : ((w.alloc (.cells #[.string (str e.path), .int .i64 e.kind, .int .i64 e.size, .slice x e.chunks.length cc] 53)).alloc (.cells #[.int .i64 0, .slice none 0 0] 42)).heap.size = w.heap.size + 2 := by simp
  clear h hx hsA
  rw [parC_right hp, if_neg h0, parT_right hp] at HPO
  obtain ⟨hpp, hpb⟩ := parent_above hp h0
  have hppl : (parentP e.path).length ≤ 1048576 := by have := below_len hpb; omega
  have HEA0 := hide (fun u (hu : Below w.heap.size w u) => implEntryAt_any a c U.length U (parentP e.path) u (HR0.out.below hu) rfl (by omega) HSU.out hppl)
  rw [show findCodeP U (parentP e.path) = 4 by rw [findCodeP, if_pos (askP_of hR hpp), hd]; rfl] at HEA0
  have HEA : Hid (∀ u : World, Below w.heap.size w u → Calls Tryz.prog 23 #[.slice a U.length c, .string (str (parentP e.path))] u fun r w' => ∃ lv ln lc, r = .returned (.agg #[.int .i64 4, .slice lv ln lc]) ∧ Below u.heap.size u w') := hide (fun u hu => (HEA0.out u hu).mono (fun r w' ⟨lv, lc, h2, _, h4⟩ => ⟨lv, _, lc, h2, h4⟩))
  have hfl : ∀ (w : World) (F : Int) (v : Value), (Instr.field 42 (.agg #[.int .i64 F, v]) 0).run Tryz.prog w = .ok (.int .i64 F) w := fun _ _ _ => by kernel_rfl
  have HREC := hide hrec
  have HLL := hide hL
  have HQQ := hide hqq
  clear HEA0 hd hpp hpb hrec hL hqq
  go_enter_defers Tryz.func81, Tryz.ntmps81
  obtain ⟨f0, f1, f2, f3⟩ := FE0.out
  go_wp2_with fail
  clear f0 f1 f2 f3
  generalize ((w.alloc (.cells #[.string (str e.path), .int .i64 e.kind, .int .i64 e.size, .slice x e.chunks.length cc] 53)).alloc (.cells #[.int .i64 0, .slice none 0 0] 42)) = W0 at *
  refine (HPO.out W0).mono ?_
  rintro r w1 ⟨rfl, hb1⟩
  generalize parentP e.path = PT at *
  have A1 := hide (below_next hb1 (below_alloc w1 (.cells #[.int .i64 0, .string (str PT)] 147)))
  have T1 := hide (Box.new w1 (.int .i64 0) (.string (str PT)) 147)
  have BX1 := hide (BX0.out.below A1.out)
  have FE1 := hide (FE0.out.below A1.out)
  have B1 := hide (below_next B0.out A1.out)
  have hs1 := A1.out.size
  clear hb1 HPO
  obtain ⟨⟨s0, s1⟩, s2, s3⟩ := T1.out
  obtain ⟨⟨t0, t1⟩, t2, t3⟩ := BX1.out
  go_wp2_with fail
  clear s0 s1 s2 s3 t0 t1 t2 t3
  generalize w1.alloc (.cells #[.int .i64 0, .string (str PT)] 147) = V1 at *
  generalize w1.heap.size = bT at *
  refine (HEA.out V1 B1.out).mono ?_
  rintro r W1 ⟨lv, ln, lc, rfl, hbE⟩
  have BX1' := hide (BX1.out.below hbE)
  have FE1' := hide (FE1.out.below hbE)
  have B1' := hide (below_next B1.out hbE)
  have T1' := hide (T1.out.below hbE)
  have hsE := hbE.size
  clear BX1 FE1 B1 hbE T1
  have BX1 := BX1'
  have FE1 := FE1'
  have B1 := B1'
  have T1 := T1'
  clear BX1' FE1' B1' T1'
  obtain ⟨⟨s0, s1⟩, s2, s3⟩ := T1.out
  obtain ⟨⟨t0, t1⟩, t2, t3⟩ := BX1.out
  go_wp2_with fail
  clear s0 s1 s2 s3 t0 t1 t2 t3
  refine (HREC.out W1 B1.out).mono ?_
  rintro r w4 ⟨av4, cv4, rfl, hG4, hb4⟩
  have BX4 := hide (BX1.out.below hb4)
  have FE4 := hide (FE1.out.below hb4)
  have B4 := hide (below_next B1.out hb4)
  have G4 := hide hG4
  have hs4 := hb4.size
  clear hG4 hb4 BX1 FE1 B1 T1
  obtain ⟨⟨t0, t1⟩, t2, t3⟩ := BX4.out
  generalize hN4 : L.length = N4 at *
  go_wp2_with fail
  clear t0 t1 t2 t3
  have BX5 := hide (boxC_two BX4.out (.int .i64 q) (.slice av4 N4 cv4))
  have hne : w.heap.size ≠ w.heap.size + 1 := by omega
  have KT : Hid (Kept (fun b => b = w.heap.size + 1) w4 ((w4.setCell ⟨w.heap.size + 1, 0, none⟩ (.int .i64 q)).setCell ⟨w.heap.size + 1, 1, none⟩ (.slice av4 N4 cv4))) := hide (Kept.two w4 (w.heap.size + 1) 0 1 _ _)
  have hzW : ((w4.setCell ⟨w.heap.size + 1, 0, none⟩ (.int .i64 q)).setCell ⟨w.heap.size + 1, 1, none⟩ (.slice av4 N4 cv4)).heap.size = w4.heap.size := by simp [World.setCell]
  have BW : Hid (Below w.heap.size w ((w4.setCell ⟨w.heap.size + 1, 0, none⟩ (.int .i64 q)).setCell ⟨w.heap.size + 1, 1, none⟩ (.slice av4 N4 cv4))) := hide ((B4.out.setCell (p := ⟨w.heap.size + 1, 0, none⟩) (by show w.heap.size ≤ w.heap.size + 1; omega) _).setCell (p := ⟨w.heap.size + 1, 1, none⟩) (by show w.heap.size ≤ w.heap.size + 1; omega) _)
  have FE5 := hide (four_kept FE4.out KT.out hne)
  have G5 := hide (ge_box (u := .int .i64 q) (v := .slice av4 N4 cv4) G4.out (show w.heap.size + 1 < W1.heap.size by omega))
  refine leaves_cons (f := 132) (args := #[.pointer (some ⟨w.heap.size + 1, 0, none⟩), .pointer (some ⟨w.heap.size, 0, none⟩)]) (by simp) (by simp [go_sem]) ?_
  generalize (w4.setCell ⟨w.heap.size + 1, 0, none⟩ (.int .i64 q)).setCell ⟨w.heap.size + 1, 1, none⟩ (.slice av4 N4 cv4) = W5 at *
  by_cases hq : q = 0
  · subst hq
    obtain ⟨hRL, hSL⟩ := HLL.out rfl
    have hL12 := hRL.len
    refine (fillLit_put (w.heap.size + 1) w.heap.size av4 N4 cv4 L e x cc .returning W5 BX5.out FE5.out G5.out.rd hN4.symm (by omega) hSL (HX0.out.below BW.out) hpl hcl).mono ?_
    rintro r u' w' ⟨rfl, rfl, w6, av6, cv6, hb6, hG6, rfl⟩
    have BX6 := BX5.out.below hb6
    obtain ⟨⟨t0, t1⟩, t2, t3⟩ := BX6
    have HF := hide (ResE.of (q := putCodeP L e) (w2 := w) (u := .int .i64 (putCodeP L e)) (v := .slice av6 (putListP L e).length cv6) (show w.heap.size + 1 < W5.heap.size by omega) (by omega) rfl hG6 (below_next BW.out hb6))
    obtain ⟨e1, e2⟩ := HQQ.out.1 rfl
    subst e1
    subst e2
    simp [Leaves, settle, results, Tryz.results81, go_sem, t0, t1]
    exact HF.out
  · refine (fillLit_skip (w.heap.size + 1) w.heap.size q _ .returning W5 BX5.out hq).mono ?_
    rintro r u' w' ⟨rfl, rfl, rfl⟩
    obtain ⟨⟨t0, t1⟩, t2, t3⟩ := BX5.out
    have HF : Hid (ResE q L w (.returned (.agg #[.int .i64 q, .slice av4 N4 cv4])) w') := hide ⟨av4, cv4, by rw [hN4], by rw [hN4]; exact (G5.out.mono (by omega)).wide (by omega), BW.out⟩
    obtain ⟨e1, e2⟩ := HQQ.out.2 hq
    subst e1
    subst e2
    simp [Leaves, settle, results, Tryz.results81, go_sem, t0, t1]
    exact HF.out
theorem filledUp_any (a : Option Addr) (c : Nat) (U : List En) (hR : Right U) : ∀ (n : Nat) (e : En) (x : Option Addr) (cc : Nat) (w : World), (above e.path).length = n → faultP e.path = 0 → RdE w a U → Reads .i64 w x e.chunks → e.path.length ≤ 1048576 → e.chunks.length ≤ 1048576 →
    Calls Tryz.prog 81 #[.slice a U.length c, .agg #[.string (str e.path), .int .i64 e.kind, .int .i64 e.size, .slice x e.chunks.length cc]] w (ResE (filR n U e).1 (filR n U e).2 w) := by
  intro n
  induction n with
  | zero =>
    intro e x cc w hn hp h hx hpl hcl
    exact filledUp_top a c U hR e x cc w hp h hx hpl hcl (parU_none hp hn)
  | succ n ih =>
    intro e x cc w hn hp h hx hpl hcl
    have h0 : parentP e.path ≠ [] := fun e0 => by
      have h1 := above_kid hp rfl
      rw [if_pos e0] at h1
      rw [h1] at hn
      simp at hn
    obtain ⟨hpp, hpb⟩ := parent_above hp h0
    cases hd : findE U (parentP e.path) with
    | some d =>
      have hnn : needsU U e = false := by simp [needsU, hd]
      rw [filR_none hnn]
      exact filledUp_in a c U hR e x cc w hp h hx hpl hcl h0 d hd
    | none =>
      have hnn : needsU U e = true := by simp [needsU, hd, h0]
      refine filledUp_rec a c U hR e x cc w hp h hx hpl hcl h0 hd (filR n U (dirQ (parentP e.path))).1 _ (filR n U (dirQ (parentP e.path))).2 _ ⟨fun hq => by rw [filR_put hnn hq]; exact ⟨rfl, rfl⟩, fun hq => by rw [filR_bad hnn hq]; exact ⟨rfl, rfl⟩⟩ (fun hz => filR_zero hz)
        (fun u hu => ih (dirQ (parentP e.path)) none 0 u (parN hp h0 hn) hpp (h.below hu) (fun hz => absurd rfl hz) (by have := below_len hpb; show (parentP e.path).length ≤ 1048576; omega) (by simp [dirQ]))
end Go.Proofs.YtebgfaohhhgdpaaGreat

namespace Go.Proofs.YtebgfaohhhgdpaaGreat
open Go.RowKit Go.Maps
set_option linter.unusedVariables false
attribute [local go_sem ↓] Go.wp_at_zero Go.wp_at_succ

def filU (U : List En) (e : En) : Int × List En := filR (above e.path).length U e
def wrtR (U : List En) (e : En) : Int := (filU U e).1
def wrtL (U : List En) (e : En) : List En := if (filU U e).1 = 0 then (filU U e).2 else U
set_option maxRecDepth 100000 in
set_option maxHeartbeats 3200000 in
theorem written_any (a : Option Addr) (c n : Nat) (U : List En) (e : En) (x : Option Addr) (m cc : Nat) (w : World) (hR : Right U) (h : RdE w a U) (hn : n = U.length) (hp : faultP e.path = 0) (hm : m = e.chunks.length) (hx : Reads .i64 w x e.chunks) (hpl : e.path.length ≤ 1048576) (hcl : e.chunks.length ≤ 1048576) :
    Calls Tryz.prog 32 #[.slice a n c, .agg #[.string (str e.path), .int .i64 e.kind, .int .i64 e.size, .slice x m cc]] w (ResG 0 (wrtR U e) (wrtL U e) w) := by
  subst hn
  subst hm
  have B0 := hide (below_next (below_alloc w (.cells #[.string (str e.path), .int .i64 e.kind, .int .i64 e.size, .slice x e.chunks.length cc] 53)) (below_alloc (w.alloc (.cells #[.string (str e.path), .int .i64 e.kind, .int .i64 e.size, .slice x e.chunks.length cc] 53)) (.cells #[.int .i64 0, .int .i64 0, .slice none 0 0] 32)))
  have FE0 := hide ((Four.new w (.string (str e.path)) (.int .i64 e.kind) (.int .i64 e.size) (.slice x e.chunks.length cc) 53).below (below_alloc (w.alloc (.cells #[.string (str e.path), .int .i64 e.kind, .int .i64 e.size, .slice x e.chunks.length cc] 53)) (.cells #[.int .i64 0, .int .i64 0, .slice none 0 0] 32)))
  have X0 := hide (Box3.new (w.alloc (.cells #[.string (str e.path), .int .i64 e.kind, .int .i64 e.size, .slice x e.chunks.length cc] 53)) (.int .i64 0) (.int .i64 0) (.slice none 0 0) 32)
  have hsA : (w.alloc (.cells #[.string (str e.path), .int .i64 e.kind, .int .i64 e.size, .slice x e.chunks.length cc] 53)).heap.size = w.heap.size + 1 := by simp
  rw [hsA] at X0
  have HF := hide (fun u (hu : Below w.heap.size w u) => filledUp_any a c U hR (above e.path).length e x cc u rfl hp (h.below hu) (hx.below hu) hpl hcl)
  have hlU := hR.len
  have HST := hide (fun (q : Int) u (hu : Below w.heap.size w u) => stays_any a c U.length U q u (h.below hu) rfl (by omega) (right_small hR))
  have HQ := hide (show wrtR U e = (filU U e).1 ∧ ((filU U e).1 = 0 → wrtL U e = (filU U e).2) ∧ ((filU U e).1 ≠ 0 → wrtL U e = U) from ⟨rfl, fun h => by rw [wrtL, if_pos h], fun h => by rw [wrtL, if_neg h]⟩)
  have e9 : filR (above e.path).length U e = filU U e := rfl
  rw [e9] at HF
  clear e9 h hx hsA hR
  generalize filU U e = FU at *
  obtain ⟨q, L⟩ := FU
  have hQ1 := HQ.out.1
  have hQ2 := HQ.out.2
  simp only at hQ1 hQ2 HF
  have HQ1 := hide hQ1
  have HQ2 := hide hQ2
  clear hQ1 hQ2 HQ
  go_enter Tryz.func32, Tryz.ntmps32
  obtain ⟨f0, f1, f2, f3⟩ := FE0.out
  go_wp2_with fail
  clear f0 f1 f2 f3
  generalize hW0 : (w.alloc (.cells #[.string (str e.path), .int .i64 e.kind, .int .i64 e.size, .slice x e.chunks.length cc] 53)).alloc (.cells #[.int .i64 0, .int .i64 0, .slice none 0 0] 32) = W0 at *
  clear hW0
  have hlt := X0.out.lt
  refine (HF.out W0 B0.out).mono ?_
  rintro r w1 ⟨av, cv, rfl, hG1, hb1⟩
  have A1 := hide (below_alloc w1 (.cells #[.int .i64 q, .slice av L.length cv] 42))
  have T1 := hide (Box.new w1 (.int .i64 q) (.slice av L.length cv) 42)
  have B1 := hide (below_next B0.out (below_next hb1 A1.out))
  have X1 := hide (X0.out.below (below_next hb1 A1.out))
  have G1 := hide ((GW.of hG1).below A1.out)
  have hs1 := hb1.size
  clear hG1 hb1 HF A1
  obtain ⟨⟨s0, s1⟩, s2, s3⟩ := T1.out
  obtain ⟨⟨t0, t1, t2⟩, t3, t4, t5⟩ := X1.out
  by_cases hq : q = 0
  · subst hq
    have HL := hide (HQ2.out.1 rfl)
    go_wp2_with fail
    exact bodyPost_ret (v := .agg #[.int .i64 0, .int .i64 0, .slice av L.length cv]) (by simp [results, Tryz.results32, go_sem, t0, t1, t2]) rfl (by rw [HQ1.out, HL.out]; exact ResG.of (by omega) (by omega) rfl G1.out B1.out)
  · have HL := hide (HQ2.out.2 hq)
    have hq2 : (q != 0) = true := by simp; exact hq
    clear hq
    go_wp2_with fail
    clear s0 s1 s2 s3 t0 t1 t2 t3 t4 t5
    generalize w1.alloc (.cells #[.int .i64 q, .slice av L.length cv] 42) = W1 at *
    refine (HST.out q W1 B1.out).mono ?_
    rintro r w2 ⟨av2, cv2, rfl, hG2, hb2⟩
    have B2 := hide (below_next B1.out hb2)
    have G2 := hide hG2
    have hltW := X1.out.lt
    obtain ⟨⟨t0, t1, t2⟩, t3, t4, t5⟩ := X1.out.below hb2
    clear hG2 hb2
    go_wp2_with fail
    exact bodyPost_ret (v := .agg #[.int .i64 0, .int .i64 q, .slice av2 U.length cv2]) (by simp [results, Tryz.results32, go_sem, t0, t1, t2]) rfl (by rw [HQ1.out, HL.out]; exact ResG.of (by omega) (by omega) rfl G2.out B2.out)
def homR (ls : List (List En)) (p : Bs) : Int := if parentP p = [] then 0 else lovC ls (parentP p)
set_option maxRecDepth 100000 in
set_option maxHeartbeats 1600000 in
theorem homeOver_any (a : Option Addr) (c n : Nat) (ls : List (List En)) (p : Bs) (w : World) (h : RdL w a ls) (hn : n = ls.length) (hl : ls.length ≤ 1048576) (hs : SmallL ls) (hp : faultP p = 0) (hpl : p.length ≤ 1048576) :
    Calls Tryz.prog 78 #[.slice a n c, .string (str p)] w fun r w' => r = .returned (.int .i64 (homR ls p)) ∧ Below w.heap.size w w' := by
  subst hn
  have hsz := str_size p
  have HPO := hide (implParentOf_any (str p) w (by omega))
  rw [str_data, parC_right hp, parT_right hp] at HPO
  by_cases h0 : parentP p = []
  · have HQ := hide (show homR ls p = 0 by rw [homR, if_pos h0])
    rw [if_pos h0] at HPO
    generalize parentP p = PT at *
    clear h hs h0
    go_enter Tryz.func78, Tryz.ntmps78
    go_wp2_with fail
    refine HPO.out.mono ?_
    rintro r w1 ⟨rfl, hb1⟩
    have B1 := hide (below_next hb1 (below_alloc w1 (.cells #[.int .i64 4, .string (str PT)] 147)))
    have T1 := hide (Box.new w1 (.int .i64 4) (.string (str PT)) 147)
    clear hb1
    obtain ⟨⟨s0, s1⟩, s2, s3⟩ := T1.out
    go_wp2_with fail
    go_ret
    exact ⟨by rw [HQ.out]; rfl, B1.out⟩
  · have HQ := hide (show homR ls p = lovC ls (parentP p) by rw [homR, if_neg h0])
    rw [if_neg h0] at HPO
    have hppl : (parentP p).length ≤ 1048576 := by have := below_len (parent_above hp h0).2; omega
    have HLO := hide (fun u (hu : Below w.heap.size w u) => listOverFault_any a c ls.length ls (parentP p) u (h.below hu) rfl hl hs hppl)
    generalize parentP p = PT at *
    clear h hs h0
    go_enter Tryz.func78, Tryz.ntmps78
    go_wp2_with fail
    refine HPO.out.mono ?_
    rintro r w1 ⟨rfl, hb1⟩
    have B1 := hide (below_next hb1 (below_alloc w1 (.cells #[.int .i64 0, .string (str PT)] 147)))
    have T1 := hide (Box.new w1 (.int .i64 0) (.string (str PT)) 147)
    clear hb1
    obtain ⟨⟨s0, s1⟩, s2, s3⟩ := T1.out
    go_wp2_with fail
    clear s0 s1 s2 s3
    generalize w1.alloc (.cells #[.int .i64 0, .string (str PT)] 147) = W1 at *
    refine (HLO.out W1 B1.out).mono ?_
    rintro r w2 ⟨rfl, hb2⟩
    have B2 := hide (below_next B1.out hb2)
    clear hb2
    go_wp2_with fail
    go_ret
    exact ⟨by rw [HQ.out]; rfl, B2.out⟩
def wovR (ls : List (List En)) (p : Bs) : Int := if homR ls p = 0 then (if lovC ls p = 0 then 9 else 0) else homR ls p
def movR (ls : List (List En)) (p : Bs) : Int := if homR ls p = 0 then (if plcC ls p = 0 then 7 else 0) else homR ls p
def rovR (ls : List (List En)) (p : Bs) : Int := if plcC ls p = 0 then (if 0 < (lovL ls p).length then 1 else 0) else plcC ls p
def dirKd (U : List En) (p : Bs) : Int := if findCodeP U p = 0 then 4 else 2
set_option maxRecDepth 100000 in
set_option maxHeartbeats 1600000 in
theorem writeOverR_any (a : Option Addr) (c n : Nat) (ls : List (List En)) (p : Bs) (w : World) (h : RdL w a ls) (hn : n = ls.length) (hl : ls.length ≤ 1048576) (hs : SmallL ls) (hp : faultP p = 0) (hpl : p.length ≤ 1048576) :
    Calls Tryz.prog 30 #[.slice a n c, .string (str p)] w fun r w' => r = .returned (.int .i64 (wovR ls p)) ∧ Below w.heap.size w w' := by
  subst hn
  have HH := hide (homeOver_any a c ls.length ls p w h rfl hl hs hp hpl)
  have HLO := hide (fun u (hu : Below w.heap.size w u) => listOverFault_any a c ls.length ls p u (h.below hu) rfl hl hs hpl)
  clear h hs
  by_cases h1 : homR ls p = 0
  · rw [h1] at HH
    by_cases h2 : lovC ls p = 0
    · have HQ := hide (show wovR ls p = 9 by rw [wovR, if_pos h1, if_pos h2])
      rw [h2] at HLO
      clear h1 h2
      go_enter Tryz.func30, Tryz.ntmps30
      go_wp2_with fail
      refine HH.out.mono ?_
      rintro r w1 ⟨rfl, hb1⟩
      have B1 := hide hb1
      clear hb1
      go_wp2_with fail
      refine (HLO.out w1 B1.out).mono ?_
      rintro r w2 ⟨rfl, hb2⟩
      have B2 := hide (below_next B1.out hb2)
      clear hb2
      go_wp2_with fail
      go_ret
      exact ⟨by rw [HQ.out]; rfl, B2.out⟩
    · have HQ := hide (show wovR ls p = 0 by rw [wovR, if_pos h1, if_neg h2])
      generalize lovC ls p = F at *
      have hz2 : (F == 0) = false := by simpa using h2
      clear h1 h2
      go_enter Tryz.func30, Tryz.ntmps30
      go_wp2_with fail
      refine HH.out.mono ?_
      rintro r w1 ⟨rfl, hb1⟩
      have B1 := hide hb1
      clear hb1
      go_wp2_with fail
      refine (HLO.out w1 B1.out).mono ?_
      rintro r w2 ⟨rfl, hb2⟩
      have B2 := hide (below_next B1.out hb2)
      clear hb2
      go_wp2_with fail
      go_ret
      exact ⟨by rw [HQ.out]; rfl, B2.out⟩
  · have HQ := hide (show wovR ls p = homR ls p by rw [wovR, if_neg h1])
    generalize homR ls p = F at *
    have hz2 : (F != 0) = true := by simp; exact h1
    clear h1
    go_enter Tryz.func30, Tryz.ntmps30
    go_wp2_with fail
    refine HH.out.mono ?_
    rintro r w1 ⟨rfl, hb1⟩
    have B1 := hide hb1
    clear hb1
    go_wp2_with fail
    go_ret
    exact ⟨by rw [HQ.out]; rfl, B1.out⟩
set_option maxRecDepth 100000 in
set_option maxHeartbeats 1600000 in
theorem makeOverR_any (a : Option Addr) (c n : Nat) (ls : List (List En)) (p : Bs) (w : World) (h : RdL w a ls) (hn : n = ls.length) (hl : ls.length ≤ 1048576) (hs : SmallL ls) (hp : faultP p = 0) (hpl : p.length ≤ 1048576) :
    Calls Tryz.prog 33 #[.slice a n c, .string (str p)] w fun r w' => r = .returned (.int .i64 (movR ls p)) ∧ Below w.heap.size w w' := by
  subst hn
  have hfl : ∀ (w : World) (F : Int) (v : Value), (Instr.field 42 (.agg #[.int .i64 F, v]) 0).run Tryz.prog w = .ok (.int .i64 F) w := fun _ _ _ => by kernel_rfl
  have HH := hide (homeOver_any a c ls.length ls p w h rfl hl hs hp hpl)
  have HLO : Hid (∀ u : World, Below w.heap.size w u → Calls Tryz.prog 37 #[.slice a ls.length c, .string (str p)] u fun r w' => ∃ lv ln lc, r = .returned (.agg #[.int .i64 (plcC ls p), .slice lv ln lc]) ∧ Below u.heap.size u w') := hide (fun u hu => (implLookOver_any a c ls.length ls p u (h.below hu) rfl hl hs hpl).mono (fun r w' ⟨lv, lc, h2, _, h4⟩ => ⟨lv, _, lc, h2, h4⟩))
  clear h hs
  by_cases h1 : homR ls p = 0
  · rw [h1] at HH
    by_cases h2 : plcC ls p = 0
    · have HQ := hide (show movR ls p = 7 by rw [movR, if_pos h1, if_pos h2])
      rw [h2] at HLO
      clear h1 h2
      go_enter Tryz.func33, Tryz.ntmps33
      go_wp2_with fail
      refine HH.out.mono ?_
      rintro r w1 ⟨rfl, hb1⟩
      have B1 := hide hb1
      clear hb1
      go_wp2_with fail
      refine (HLO.out w1 B1.out).mono ?_
      rintro r w2 ⟨lv, ln, lc, rfl, hb2⟩
      have B2 := hide (below_next B1.out hb2)
      clear hb2
      go_wp2_with fail
      go_ret
      exact ⟨by rw [HQ.out]; rfl, B2.out⟩
    · have HQ := hide (show movR ls p = 0 by rw [movR, if_pos h1, if_neg h2])
      generalize plcC ls p = F at *
      have hz2 : (F == 0) = false := by simpa using h2
      clear h1 h2
      go_enter Tryz.func33, Tryz.ntmps33
      go_wp2_with fail
      refine HH.out.mono ?_
      rintro r w1 ⟨rfl, hb1⟩
      have B1 := hide hb1
      clear hb1
      go_wp2_with fail
      refine (HLO.out w1 B1.out).mono ?_
      rintro r w2 ⟨lv, ln, lc, rfl, hb2⟩
      have B2 := hide (below_next B1.out hb2)
      clear hb2
      go_wp2_with fail
      go_ret
      exact ⟨by rw [HQ.out]; rfl, B2.out⟩
  · have HQ := hide (show movR ls p = homR ls p by rw [movR, if_neg h1])
    generalize homR ls p = F at *
    have hz2 : (F != 0) = true := by simp; exact h1
    clear h1
    go_enter Tryz.func33, Tryz.ntmps33
    go_wp2_with fail
    refine HH.out.mono ?_
    rintro r w1 ⟨rfl, hb1⟩
    have B1 := hide hb1
    clear hb1
    go_wp2_with fail
    go_ret
    exact ⟨by rw [HQ.out]; rfl, B1.out⟩
set_option maxRecDepth 100000 in
set_option maxHeartbeats 1600000 in
theorem removeOverR_any (a : Option Addr) (c n : Nat) (ls : List (List En)) (p : Bs) (w : World) (h : RdL w a ls) (hn : n = ls.length) (hl : ls.length ≤ 1048576) (hs : SmallL ls) (hpl : p.length ≤ 1048576) :
    Calls Tryz.prog 35 #[.slice a n c, .string (str p)] w fun r w' => r = .returned (.int .i64 (rovR ls p)) ∧ Below w.heap.size w w' := by
  subst hn
  have hfl : ∀ (w : World) (F : Int) (v : Value), (Instr.field 42 (.agg #[.int .i64 F, v]) 0).run Tryz.prog w = .ok (.int .i64 F) w := fun _ _ _ => by kernel_rfl
  have hfn : ∀ (w : World) (F : Int) (v : Value), (Instr.field 85 (.agg #[.int .i64 F, v]) 1).run Tryz.prog w = .ok v w := fun _ _ _ => by kernel_rfl
  have HLO : Hid (∀ u : World, Below w.heap.size w u → Calls Tryz.prog 37 #[.slice a ls.length c, .string (str p)] u fun r w' => ∃ lv ln lc, r = .returned (.agg #[.int .i64 (plcC ls p), .slice lv ln lc]) ∧ Below u.heap.size u w') := hide (fun u hu => (implLookOver_any a c ls.length ls p u (h.below hu) rfl hl hs hpl).mono (fun r w' ⟨lv, lc, h2, _, h4⟩ => ⟨lv, _, lc, h2, h4⟩))
  have HLI : Hid (∀ u : World, Below w.heap.size w u → Calls Tryz.prog 82 #[.slice a ls.length c, .string (str p)] u fun r w' => ∃ lv lc, r = .returned (.agg #[.int .i64 (lovC ls p), .slice lv (lovL ls p).length lc]) ∧ Below u.heap.size u w') := hide (fun u hu => (implListOver_any a c ls.length ls p u (h.below hu) rfl hl hs hpl).mono (fun r w' ⟨lv, lc, h2, _, h4⟩ => ⟨lv, lc, h2, h4⟩))
  clear h hs
  by_cases h1 : plcC ls p = 0
  · rw [h1] at HLO
    by_cases h2 : 0 < (lovL ls p).length
    · have HQ := hide (show rovR ls p = 1 by rw [rovR, if_pos h1, if_pos h2])
      generalize (lovL ls p).length = N at *
      generalize lovC ls p = C at *
      have h2' : (0 : Int) < (N : Int) := by omega
      clear h1
      go_enter Tryz.func35, Tryz.ntmps35
      go_wp2_with fail
      refine (HLO.out w (Below.refl _ _)).mono ?_
      rintro r w1 ⟨lv, ln, lc, rfl, hb1⟩
      have B1 := hide hb1
      clear hb1
      go_wp2_with fail
      refine (HLI.out w1 B1.out).mono ?_
      rintro r w2 ⟨lv2, lc2, rfl, hb2⟩
      have B2 := hide (below_next B1.out hb2)
      clear hb2
      go_wp2_with fail
      go_ret
      exact ⟨by rw [HQ.out]; rfl, B2.out⟩
    · have HQ := hide (show rovR ls p = 0 by rw [rovR, if_pos h1, if_neg h2])
      generalize (lovL ls p).length = N at *
      generalize lovC ls p = C at *
      have h2' : ¬ (0 : Int) < (N : Int) := by omega
      clear h1
      go_enter Tryz.func35, Tryz.ntmps35
      go_wp2_with fail
      refine (HLO.out w (Below.refl _ _)).mono ?_
      rintro r w1 ⟨lv, ln, lc, rfl, hb1⟩
      have B1 := hide hb1
      clear hb1
      go_wp2_with fail
      refine (HLI.out w1 B1.out).mono ?_
      rintro r w2 ⟨lv2, lc2, rfl, hb2⟩
      have B2 := hide (below_next B1.out hb2)
      clear hb2
      go_wp2_with fail
      go_ret
      exact ⟨by rw [HQ.out]; rfl, B2.out⟩
  · have HQ := hide (show rovR ls p = plcC ls p by rw [rovR, if_neg h1])
    generalize plcC ls p = F at *
    have hz2 : (F != 0) = true := by simp; exact h1
    clear h1
    go_enter Tryz.func35, Tryz.ntmps35
    go_wp2_with fail
    refine (HLO.out w (Below.refl _ _)).mono ?_
    rintro r w1 ⟨lv, ln, lc, rfl, hb1⟩
    have B1 := hide hb1
    clear hb1
    go_wp2_with fail
    go_ret
    exact ⟨by rw [HQ.out]; rfl, B1.out⟩
set_option maxRecDepth 100000 in
set_option maxHeartbeats 1600000 in
theorem dirKind_any (a : Option Addr) (c n : Nat) (U : List En) (p : Bs) (w : World) (h : RdE w a U) (hn : n = U.length) (hl : U.length ≤ 1048576) (hs : SmallE U) (hpl : p.length ≤ 1048576) :
    Calls Tryz.prog 34 #[.slice a n c, .string (str p)] w fun r w' => r = .returned (.int .i64 (dirKd U p)) ∧ Below w.heap.size w w' := by
  subst hn
  have hfl : ∀ (w : World) (F : Int) (v : Value), (Instr.field 42 (.agg #[.int .i64 F, v]) 0).run Tryz.prog w = .ok (.int .i64 F) w := fun _ _ _ => by kernel_rfl
  have HEA : Hid (Calls Tryz.prog 23 #[.slice a U.length c, .string (str p)] w fun r w' => ∃ lv ln lc, r = .returned (.agg #[.int .i64 (findCodeP U p), .slice lv ln lc]) ∧ Below w.heap.size w w') := hide ((implEntryAt_any a c U.length U p w h rfl hl hs hpl).mono (fun r w' ⟨lv, lc, h2, _, h4⟩ => ⟨lv, _, lc, h2, h4⟩))
  clear h hs
  by_cases h1 : findCodeP U p = 0
  · have HQ := hide (show dirKd U p = 4 by rw [dirKd, if_pos h1])
    rw [h1] at HEA
    clear h1
    go_enter Tryz.func34, Tryz.ntmps34
    go_wp2_with fail
    refine HEA.out.mono ?_
    rintro r w1 ⟨lv, ln, lc, rfl, hb1⟩
    have B1 := hide hb1
    clear hb1
    go_wp2_with fail
    go_ret
    exact ⟨by rw [HQ.out]; rfl, B1.out⟩
  · have HQ := hide (show dirKd U p = 2 by rw [dirKd, if_neg h1])
    generalize findCodeP U p = F at *
    have hz2 : (F == 0) = false := by simpa using h1
    clear h1
    go_enter Tryz.func34, Tryz.ntmps34
    go_wp2_with fail
    refine HEA.out.mono ?_
    rintro r w1 ⟨lv, ln, lc, rfl, hb1⟩
    have B1 := hide hb1
    clear hb1
    go_wp2_with fail
    go_ret
    exact ⟨by rw [HQ.out]; rfl, B1.out⟩
end Go.Proofs.YtebgfaohhhgdpaaGreat

