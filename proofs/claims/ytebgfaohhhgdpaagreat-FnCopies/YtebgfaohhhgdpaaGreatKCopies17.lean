/-
  Texts put together: MntC MntD OvrK.
-/
import Derived.Test.YtebgfaohhhgdpaaGreatKCopies12
import Derived.Test.YtebgfaohhhgdpaaGreatKCopies15
import Derived.Test.YtebgfaohhhgdpaaGreatKCopies16
import Derived.Test.YtebgfaohhhgdpaaGreatKCopies11
namespace Go.Proofs.YtebgfaohhhgdpaaGreat
open Go.RowKit Go.Maps
set_option linter.unusedVariables false
attribute [local go_sem ↓] Go.wp_at_zero Go.wp_at_succ

def dirQ (q : Bs) : En := ⟨q, 2, 0, []⟩
/-- Is the directory that an entry stands in to be put first? -/
def needsU (U : List En) (e : En) : Bool := !decide (parentP e.path = []) && (findE U (parentP e.path)).isNone
/-- What filledUp answers: a code and a layer. -/
def filR : Nat → List En → En → Int × List En
  | 0, U, e => (putCodeP U e, putListP U e)
  | n + 1, U, e => if needsU U e = true then (if (filR n U (dirQ (parentP e.path))).1 = 0 then (putCodeP (filR n U (dirQ (parentP e.path))).2 e, putListP (filR n U (dirQ (parentP e.path))).2 e) else filR n U (dirQ (parentP e.path))) else (putCodeP U e, putListP U e)
theorem filR_none {n : Nat} {U : List En} {e : En} (h : needsU U e = false) : filR n U e = (putCodeP U e, putListP U e) := by
  cases n <;> simp [filR, h]
theorem filR_put {n : Nat} {U : List En} {e : En} (h : needsU U e = true) (h0 : (filR n U (dirQ (parentP e.path))).1 = 0) : filR (n + 1) U e = (putCodeP (filR n U (dirQ (parentP e.path))).2 e, putListP (filR n U (dirQ (parentP e.path))).2 e) := by simp [filR, h, h0]
theorem filR_bad {n : Nat} {U : List En} {e : En} (h : needsU U e = true) (h0 : (filR n U (dirQ (parentP e.path))).1 ≠ 0) : filR (n + 1) U e = filR n U (dirQ (parentP e.path)) := by simp [filR, h, h0]
theorem filR_zero : ∀ {n : Nat} {U : List En} {e : En}, (filR n U e).1 = 0 → Right (filR n U e).2 ∧ SmallE (filR n U e).2
  | 0, U, e, h => by
    have h1 := putP_zero (show putCodeP U e = 0 from h)
    have h2 : (filR 0 U e).2 = putE U e := by show putListP U e = _; rw [putListP, if_pos (show putCodeP U e = 0 from h)]
    rw [h2]
    exact ⟨h1.2.2.2.2, right_small h1.2.2.2.2⟩
  | n + 1, U, e, h => by
    have key : ∀ {L : List En}, putCodeP L e = 0 → Right (putListP L e) ∧ SmallE (putListP L e) := fun {L} hL => by
      have h1 := putP_zero hL
      rw [putListP, if_pos hL]
      exact ⟨h1.2.2.2.2, right_small h1.2.2.2.2⟩
    cases hn : needsU U e
    · rw [filR_none hn] at h ⊢
      exact key h
    · by_cases h0 : (filR n U (dirQ (parentP e.path))).1 = 0
      · rw [filR_put hn h0] at h ⊢
        exact key h
      · rw [filR_bad hn h0] at h
        exact absurd h h0

set_option maxRecDepth 100000 in
set_option maxHeartbeats 1600000 in
theorem fillLit_put (R b : Nat) (av : Option Addr) (n cv : Nat) (L : List En) (e : En) (x : Option Addr) (cc : Nat) (u : FrameMode) (w : World) (hX : Box w R (.int .i64 0) (.slice av n cv)) (hF : Four w b (.string (str e.path)) (.int .i64 e.kind) (.int .i64 e.size) (.slice x e.chunks.length cc))
    (h : RdE w av L) (hn : n = L.length) (hl : L.length ≤ 1048576) (hs : SmallE L) (hr : Reads .i64 w x e.chunks) (hp : e.path.length ≤ 1048576) (hcl : e.chunks.length ≤ 1048576) :
    CallsD Tryz.prog 132 #[.pointer (some ⟨R, 0, none⟩), .pointer (some ⟨b, 0, none⟩)] u w fun r u' w' => u' = u ∧ (r = .returned (.tuple #[]) ∧ ∃ w1 av1 cv1, Below w.heap.size w w1 ∧ GE w.heap.size w1.heap.size w1 (.slice av1 (putListP L e).length cv1) (putListP L e) ∧ w' = (w1.setCell ⟨R, 0, none⟩ (.int .i64 (putCodeP L e))).setCell ⟨R, 1, none⟩ (.slice av1 (putListP L e).length cv1)) := by
  subst hn
  have HP := hide (implPutEntry_any av cv L.length L e x e.chunks.length cc w h rfl hl hs rfl hr hp hcl)
  have HX := hide hX
  obtain ⟨⟨t0, t1⟩, t2, t3⟩ := hX
  obtain ⟨f0, f1, f2, f3⟩ := hF
  clear h hs hr
  go_enter_d Tryz.func132, Tryz.ntmps132
  go_wp2_with fail
  refine HP.out.mono ?_
  rintro r w1 ⟨av1, cv1, rfl, hG, hb1⟩
  have G1 := hide hG
  have B1 := hide hb1
  clear t0 t1 t2 t3 f0 f1 f2 f3
  obtain ⟨⟨t0, t1⟩, t2, t3⟩ := HX.out.below hb1
  clear hG hb1
  go_wp2_with fail
  exact ⟨rfl, .tuple #[], by simp [results, Tryz.results132], rfl, w1, av1, cv1, B1.out, G1.out, rfl⟩
set_option maxRecDepth 100000 in
set_option maxHeartbeats 1600000 in
theorem fillLit_skip (R b : Nat) (q : Int) (v : Value) (u : FrameMode) (w : World) (hX : Box w R (.int .i64 q) v) (hq : q ≠ 0) :
    CallsD Tryz.prog 132 #[.pointer (some ⟨R, 0, none⟩), .pointer (some ⟨b, 0, none⟩)] u w fun r u' w' => u' = u ∧ (r = .returned (.tuple #[]) ∧ w' = w) := by
  obtain ⟨⟨t0, t1⟩, t2, t3⟩ := hX
  have hq2 : (q == 0) = false := by simpa using hq
  clear hq
  go_enter_d Tryz.func132, Tryz.ntmps132
  go_wp2_with fail
  exact ⟨rfl, .tuple #[], by simp [results, Tryz.results132], rfl, rfl⟩
theorem ge_box {B T : Nat} {w : World} {b : Nat} {u v : Value} {av : Option Addr} {n cv : Nat} {L : List En} (h : GE B T w (.slice av n cv) L) (hb : b < B) : GE B T ((w.setCell ⟨b, 0, none⟩ u).setCell ⟨b, 1, none⟩ v) (.slice av n cv) L := h.kept (Kept.two w b 0 1 u v) (fun x hx _ e => by omega)
theorem parN {e : En} {n : Nat} (hp : faultP e.path = 0) (h0 : parentP e.path ≠ []) (hn : (above e.path).length = n + 1) : (above (parentP e.path)).length = n := by
  have h1 := above_kid hp rfl
  rw [if_neg h0] at h1
  rw [h1, List.length_append] at hn
  simpa using hn
theorem parU_none {e : En} (hp : faultP e.path = 0) (hn : (above e.path).length = 0) : parentP e.path = [] := by
  by_cases h0 : parentP e.path = []
  · exact h0
  · have h1 := above_kid hp rfl
    rw [if_neg h0] at h1
    rw [h1] at hn
    simp at hn
theorem four_kept {S : Nat → Prop} {w w' : World} {b : Nat} {u0 u1 u2 u3 : Value} (h : Four w b u0 u1 u2 u3) (hk : Kept S w w') (hn : ¬ S b) : Four w' b u0 u1 u2 u3 :=
  ⟨(hk.cell (p := ⟨b, 0, none⟩) h.lt hn).trans h.1, (hk.cell (p := ⟨b, 1, none⟩) h.lt hn).trans h.2.1, (hk.cell (p := ⟨b, 2, none⟩) h.lt hn).trans h.2.2.1, (hk.cell (p := ⟨b, 3, none⟩) h.lt hn).trans h.2.2.2⟩
theorem boxC_two {w : World} {B : Nat} {u v : Value} (h : Box w B u v) (u' v' : Value) : Box ((w.setCell ⟨B, 0, none⟩ u').setCell ⟨B, 1, none⟩ v') B u' v' := by
  obtain ⟨⟨m0, m1⟩, m2, m3⟩ := h
  refine ⟨⟨?_, ?_⟩, ?_, ?_⟩
  · rw [cell_set_other (by simp)]; exact cell_set_same m0
  · exact cell_set_same (u := v) (by rw [cell_set_other (by simp)]; exact m1)
  · rw [World.frozen?_setCell, World.frozen?_setCell]; exact m2
  · rw [World.frozen?_setCell, World.frozen?_setCell]; exact m3
set_option maxRecDepth 100000 in
set_option maxHeartbeats 3200000 in
theorem filledUp_top (a : Option Addr) (c : Nat) (U : List En) (hR : Right U) (e : En) (x : Option Addr) (cc : Nat) (w : World) (hp : faultP e.path = 0) (h : RdE w a U) (hx : Reads .i64 w x e.chunks) (hpl : e.path.length ≤ 1048576) (hcl : e.chunks.length ≤ 1048576) (h0 : parentP e.path = []) :
    Calls Tryz.prog 81 #[.slice a U.length c, .agg #[.string (str e.path), .int .i64 e.kind, .int .i64 e.size, .slice x e.chunks.length cc]] w (ResE (putCodeP U e) (putListP U e) w) := by
  have hmf : ∀ (fn : Fn) (first cap : Array Value) (w : World), (Instr.makeFunc fn first cap).run Tryz.prog w = .ok (.func fn first cap) w := fun _ _ _ _ => rfl
  have hsz := str_size e.path
  have HPO : Hid (∀ u : World, Calls Tryz.prog 129 #[.string (str e.path)] u fun r w' => r = .returned (.agg #[.int .i64 (parC e.path), .string (str (parT e.path))]) ∧ Below u.heap.size u w') := hide (fun u => by have h1 := implParentOf_any (str e.path) u (by omega); rw [str_data] at h1; exact h1)
  have hlU := hR.len
  have HSU := hide (right_small hR)
  have HR0 := hide h
  have HX0 := hide hx
  have B0 := hide (below_next (below_alloc w (.cells #[.string (str e.path), .int .i64 e.kind, .int .i64 e.size, .slice x e.chunks.length cc] 53)) (below_alloc (w.alloc (.cells #[.string (str e.path), .int .i64 e.kind, .int .i64 e.size, .slice x e.chunks.length cc] 53)) (.cells #[.int .i64 0, .slice none 0 0] 42)))
  have FE0 := hide ((Four.new w (.string (str e.path)) (.int .i64 e.kind) (.int .i64 e.size) (.slice x e.chunks.length cc) 53).below (below_alloc (w.alloc (.cells #[.string (str e.path), .int .i64 e.kind, .int .i64 e.size, .slice x e.chunks.length cc] 53)) (.cells #[.int .i64 0, .slice none 0 0] 42)))
  have BX0 := hide (Box.new (w.alloc (.cells #[.string (str e.path), .int .i64 e.kind, .int .i64 e.size, .slice x e.chunks.length cc] 53)) (.int .i64 0) (.slice none 0 0) 42)
  have hsA : (w.alloc (.cells #[.string (str e.path), .int .i64 e.kind, .int .i64 e.size, .slice x e.chunks.length cc] 53)).heap.size = w.heap.size + 1 := by simp
  rw [hsA] at BX0
  have hs0 : ((w.alloc (.cells #[.string (str e.path), .int .i64 e.kind, .int .i64 e.size, .slice x e.chunks.length cc] 53)).alloc (.cells #[.int .i64 0, .slice none 0 0] 42)).heap.size = w.heap.size + 2 := by simp
  clear h hx hsA
  rw [parC_right hp, if_pos h0] at HPO
  go_enter_defers Tryz.func81, Tryz.ntmps81
  obtain ⟨f0, f1, f2, f3⟩ := FE0.out
  go_wp2_with fail
  clear f0 f1 f2 f3
  generalize ((w.alloc (.cells #[.string (str e.path), .int .i64 e.kind, .int .i64 e.size, .slice x e.chunks.length cc] 53)).alloc (.cells #[.int .i64 0, .slice none 0 0] 42)) = W0 at *
  refine (HPO.out W0).mono ?_
  rintro r w1 ⟨rfl, hb1⟩
  generalize parT e.path = PT at *
  have A1 := hide (below_next hb1 (below_alloc w1 (.cells #[.int .i64 4, .string (str PT)] 147)))
  have T1 := hide (Box.new w1 (.int .i64 4) (.string (str PT)) 147)
  have BX1 := hide (BX0.out.below A1.out)
  have FE1 := hide (FE0.out.below A1.out)
  have B1 := hide (below_next B0.out A1.out)
  have hs1 := A1.out.size
  clear hb1 HPO
  obtain ⟨⟨s0, s1⟩, s2, s3⟩ := T1.out
  obtain ⟨⟨t0, t1⟩, t2, t3⟩ := BX1.out
  go_wp2_with fail
  clear s0 s1 s2 s3 t0 t1 t2 t3
  generalize w1.alloc (.cells #[.int .i64 4, .string (str PT)] 147) = W1 at *
  have BX2 := hide (boxC_two BX1.out (.int .i64 0) (.slice a U.length c))
  have hne : w.heap.size ≠ w.heap.size + 1 := by omega
  have KT : Hid (Kept (fun b => b = w.heap.size + 1) W1 ((W1.setCell ⟨w.heap.size + 1, 0, none⟩ (.int .i64 0)).setCell ⟨w.heap.size + 1, 1, none⟩ (.slice a U.length c))) := hide (Kept.two W1 (w.heap.size + 1) 0 1 _ _)
  have hzW : ((W1.setCell ⟨w.heap.size + 1, 0, none⟩ (.int .i64 0)).setCell ⟨w.heap.size + 1, 1, none⟩ (.slice a U.length c)).heap.size = W1.heap.size := by simp [World.setCell]
  have BW : Hid (Below w.heap.size w ((W1.setCell ⟨w.heap.size + 1, 0, none⟩ (.int .i64 0)).setCell ⟨w.heap.size + 1, 1, none⟩ (.slice a U.length c))) := hide ((B1.out.setCell (p := ⟨w.heap.size + 1, 0, none⟩) (by show w.heap.size ≤ w.heap.size + 1; omega) _).setCell (p := ⟨w.heap.size + 1, 1, none⟩) (by show w.heap.size ≤ w.heap.size + 1; omega) _)
  have FE2 := hide (four_kept FE1.out KT.out hne)
  refine leaves_cons (f := 132) (args := #[.pointer (some ⟨w.heap.size + 1, 0, none⟩), .pointer (some ⟨w.heap.size, 0, none⟩)]) (by simp) (by simp [go_sem]) ?_
  generalize (W1.setCell ⟨w.heap.size + 1, 0, none⟩ (.int .i64 0)).setCell ⟨w.heap.size + 1, 1, none⟩ (.slice a U.length c) = W2 at *
  refine (fillLit_put (w.heap.size + 1) w.heap.size a U.length c U e x cc .returning W2 BX2.out FE2.out (HR0.out.below BW.out) rfl (by omega) HSU.out (HX0.out.below BW.out) hpl hcl).mono ?_
  rintro r u' w' ⟨rfl, rfl, w3, av3, cv3, hb3, hG3, rfl⟩
  have BX3 := BX2.out.below hb3
  obtain ⟨⟨t0, t1⟩, t2, t3⟩ := BX3
  have HF := hide (ResE.of (q := putCodeP U e) (w2 := w) (u := .int .i64 (putCodeP U e)) (v := .slice av3 (putListP U e).length cv3) (show w.heap.size + 1 < W2.heap.size by omega) (by omega) rfl hG3 (below_next BW.out hb3))
  simp [Leaves, settle, results, Tryz.results81, go_sem, t0, t1]
  exact HF.out
set_option maxRecDepth 100000 in
set_option maxHeartbeats 3200000 in
theorem filledUp_in (a : Option Addr) (c : Nat) (U : List En) (hR : Right U) (e : En) (x : Option Addr) (cc : Nat) (w : World) (hp : faultP e.path = 0) (h : RdE w a U) (hx : Reads .i64 w x e.chunks) (hpl : e.path.length ≤ 1048576) (hcl : e.chunks.length ≤ 1048576) (h0 : parentP e.path ≠ []) (d : En) (hd : findE U (parentP e.path) = some d) :
    Calls Tryz.prog 81 #[.slice a U.length c, .agg #[.string (str e.path), .int .i64 e.kind, .int .i64 e.size, .slice x e.chunks.length cc]] w (ResE (putCodeP U e) (putListP U e) w) := by
  have hmf : ∀ (fn : Fn) (first cap : Array Value) (w : World), (Instr.makeFunc fn first cap).run Tryz.prog w = .ok (.func fn first cap) w := fun _ _ _ _ => rfl
  have hsz := str_size e.path
  have HPO : Hid (∀ u : World, Calls Tryz.prog 129 #[.string (str e.path)] u fun r w' => r = .returned (.agg #[.int .i64 (parC e.path), .string (str (parT e.path))]) ∧ Below u.heap.size u w') := hide (fun u => by have h1 := implParentOf_any (str e.path) u (by omega); rw [str_data] at h1; exact h1)
  have hlU := hR.len
  have HSU := hide (right_small hR)
  have HR0 := hide h
  have HX0 := hide hx
  have B0 := hide (below_next (below_alloc w (.cells #[.string (str e.path), .int .i64 e.kind, .int .i64 e.size, .slice x e.chunks.length cc] 53)) (below_alloc (w.alloc (.cells #[.string (str e.path), .int .i64 e.kind, .int .i64 e.size, .slice x e.chunks.length cc] 53)) (.cells #[.int .i64 0, .slice none 0 0] 42)))
  have FE0 := hide ((Four.new w (.string (str e.path)) (.int .i64 e.kind) (.int .i64 e.size) (.slice x e.chunks.length cc) 53).below (below_alloc (w.alloc (.cells #[.string (str e.path), .int .i64 e.kind, .int .i64 e.size, .slice x e.chunks.length cc] 53)) (.cells #[.int .i64 0, .slice none 0 0] 42)))
  have BX0 := hide (Box.new (w.alloc (.cells #[.string (str e.path), .int .i64 e.kind, .int .i64 e.size, .slice x e.chunks.length cc] 53)) (.int .i64 0) (.slice none 0 0) 42)
  have hsA : (w.alloc (.cells #[.string (str e.path), .int .i64 e.kind, .int .i64 e.size, .slice x e.chunks.length cc] 53)).heap.size = w.heap.size + 1 := by simp
  rw [hsA] at BX0
  have hs0 : ((w.alloc (.cells #[.string (str e.path), .int .i64 e.kind, .int .i64 e.size, .slice x e.chunks.length cc] 53)).alloc (.cells #[.int .i64 0, .slice none 0 0] 42)).heap.size = w.heap.size + 2 := by simp
  clear h hx hsA
  rw [parC_right hp, if_neg h0, parT_right hp] at HPO
  obtain ⟨hpp, hpb⟩ := parent_above hp h0
  have hppl : (parentP e.path).length ≤ 1048576 := by have := below_len hpb; omega
  have HEA0 := hide (fun u (hu : Below w.heap.size w u) => implEntryAt_any a c U.length U (parentP e.path) u (HR0.out.below hu) rfl (by omega) HSU.out hppl)
  rw [show findCodeP U (parentP e.path) = 0 by rw [findCodeP, if_pos (askP_of hR hpp), hd]; rfl] at HEA0
  have HEA : Hid (∀ u : World, Below w.heap.size w u → Calls Tryz.prog 23 #[.slice a U.length c, .string (str (parentP e.path))] u fun r w' => ∃ lv ln lc, r = .returned (.agg #[.int .i64 0, .slice lv ln lc]) ∧ Below u.heap.size u w') := hide (fun u hu => (HEA0.out u hu).mono (fun r w' ⟨lv, lc, h2, _, h4⟩ => ⟨lv, _, lc, h2, h4⟩))
  have hfl : ∀ (w : World) (F : Int) (v : Value), (Instr.field 42 (.agg #[.int .i64 F, v]) 0).run Tryz.prog w = .ok (.int .i64 F) w := fun _ _ _ => by kernel_rfl
  clear HEA0 hd hpp hpb
  go_enter_defers Tryz.func81, Tryz.ntmps81
  obtain ⟨f0, f1, f2, f3⟩ := FE0.out
  go_wp2_with fail
  clear f0 f1 f2 f3
  generalize ((w.alloc (.cells #[.string (str e.path), .int .i64 e.kind, .int .i64 e.size, .slice x e.chunks.length cc] 53)).alloc (.cells #[.int .i64 0, .slice none 0 0] 42)) = W0 at *
  refine (HPO.out W0).mono ?_
  rintro r w1 ⟨rfl, hb1⟩
  generalize parentP e.path = PT at *
  have A1 := hide (below_next hb1 (below_alloc w1 (.cells #[.int .i64 0, .string (str PT)] 147)))
  have T1 := hide (Box.new w1 (.int .i64 0) (.string (str PT)) 147)
  have BX1 := hide (BX0.out.below A1.out)
  have FE1 := hide (FE0.out.below A1.out)
  have B1 := hide (below_next B0.out A1.out)
  have hs1 := A1.out.size
  clear hb1 HPO
  obtain ⟨⟨s0, s1⟩, s2, s3⟩ := T1.out
  obtain ⟨⟨t0, t1⟩, t2, t3⟩ := BX1.out
  go_wp2_with fail
  clear s0 s1 s2 s3 t0 t1 t2 t3
  generalize w1.alloc (.cells #[.int .i64 0, .string (str PT)] 147) = V1 at *
  generalize w1.heap.size = bT at *
  refine (HEA.out V1 B1.out).mono ?_
  rintro r W1 ⟨lv, ln, lc, rfl, hbE⟩
  have BX1' := hide (BX1.out.below hbE)
  have FE1' := hide (FE1.out.below hbE)
  have B1' := hide (below_next B1.out hbE)
  have T1' := hide (T1.out.below hbE)
  have hsE := hbE.size
  clear BX1 FE1 B1 hbE T1
  have BX1 := BX1'
  have FE1 := FE1'
  have B1 := B1'
  have T1 := T1'
  clear BX1' FE1' B1' T1'
  obtain ⟨⟨s0, s1⟩, s2, s3⟩ := T1.out
  obtain ⟨⟨t0, t1⟩, t2, t3⟩ := BX1.out
  go_wp2_with fail
  clear s0 s1 s2 s3 t0 t1 t2 t3
  have BX2 := hide (boxC_two BX1.out (.int .i64 0) (.slice a U.length c))
  have hne : w.heap.size ≠ w.heap.size + 1 := by omega
  have KT : Hid (Kept (fun b => b = w.heap.size + 1) W1 ((W1.setCell ⟨w.heap.size + 1, 0, none⟩ (.int .i64 0)).setCell ⟨w.heap.size + 1, 1, none⟩ (.slice a U.length c))) := hide (Kept.two W1 (w.heap.size + 1) 0 1 _ _)
  have hzW : ((W1.setCell ⟨w.heap.size + 1, 0, none⟩ (.int .i64 0)).setCell ⟨w.heap.size + 1, 1, none⟩ (.slice a U.length c)).heap.size = W1.heap.size := by simp [World.setCell]
  have BW : Hid (Below w.heap.size w ((W1.setCell ⟨w.heap.size + 1, 0, none⟩ (.int .i64 0)).setCell ⟨w.heap.size + 1, 1, none⟩ (.slice a U.length c))) := hide ((B1.out.setCell (p := ⟨w.heap.size + 1, 0, none⟩) (by show w.heap.size ≤ w.heap.size + 1; omega) _).setCell (p := ⟨w.heap.size + 1, 1, none⟩) (by show w.heap.size ≤ w.heap.size + 1; omega) _)
  have FE2 := hide (four_kept FE1.out KT.out hne)
  refine leaves_cons (f := 132) (args := #[.pointer (some ⟨w.heap.size + 1, 0, none⟩), .pointer (some ⟨w.heap.size, 0, none⟩)]) (by simp) (by simp [go_sem]) ?_
  generalize (W1.setCell ⟨w.heap.size + 1, 0, none⟩ (.int .i64 0)).setCell ⟨w.heap.size + 1, 1, none⟩ (.slice a U.length c) = W2 at *
  refine (fillLit_put (w.heap.size + 1) w.heap.size a U.length c U e x cc .returning W2 BX2.out FE2.out (HR0.out.below BW.out) rfl (by omega) HSU.out (HX0.out.below BW.out) hpl hcl).mono ?_
  rintro r u' w' ⟨rfl, rfl, w3, av3, cv3, hb3, hG3, rfl⟩
  have BX3 := BX2.out.below hb3
  obtain ⟨⟨t0, t1⟩, t2, t3⟩ := BX3
  have HF := hide (ResE.of (q := putCodeP U e) (w2 := w) (u := .int .i64 (putCodeP U e)) (v := .slice av3 (putListP U e).length cv3) (show w.heap.size + 1 < W2.heap.size by omega) (by omega) rfl hG3 (below_next BW.out hb3))
  simp [Leaves, settle, results, Tryz.results81, go_sem, t0, t1]
  exact HF.out
set_option maxRecDepth 100000 in
set_option maxHeartbeats 3200000 in
theorem filledUp_rec (a : Option Addr) (c : Nat) (U : List En) (hR : Right U) (e : En) (x : Option Addr) (cc : Nat) (w : World) (hp : faultP e.path = 0) (h : RdE w a U) (hx : Reads .i64 w x e.chunks) (hpl : e.path.length ≤ 1048576) (hcl : e.chunks.length ≤ 1048576) (h0 : parentP e.path ≠ []) (hd : findE U (parentP e.path) = none) (q q' : Int) (L L' : List En) (hqq : (q = 0 → q' = putCodeP L e ∧ L' = putListP L e) ∧ (q ≠ 0 → q' = q ∧ L' = L)) (hL : q = 0 → Right L ∧ SmallE L) (hrec : ∀ u : World, Below w.heap.size w u → Calls Tryz.prog 81 #[.slice a U.length c, .agg #[.string (str (parentP e.path)), .int .i64 2, .int .i64 0, .slice none 0 0]] u (ResE q L u)) :
    Calls Tryz.prog 81 #[.slice a U.length c, .agg #[.string (str e.path), .int .i64 e.kind, .int .i64 e.size, .slice x e.chunks.length cc]] w (ResE q' L' w) := by
  have hmf : ∀ (fn : Fn) (first cap : Array Value) (w : World), (Instr.makeFunc fn first cap).run Tryz.prog w = .ok (.func fn first cap) w := fun _ _ _ _ => rfl
  have hsz := str_size e.path
  have HPO : Hid (∀ u : World, Calls Tryz.prog 129 #[.string (str e.path)] u fun r w' => r = .returned (.agg #[.int .i64 (parC e.path), .string (str (parT e.path))]) ∧ Below u.heap.size u w') := hide (fun u => by have h1 := implParentOf_any (str e.path) u (by omega); rw [str_data] at h1; exact h1)
  have hlU := hR.len
  have HSU := hide (right_small hR)
  have HR0 := hide h
  have HX0 := hide hx
  have B0 := hide (below_next (below_alloc w (.cells #[.string (str e.path), .int .i64 e.kind, .int .i64 e.size, .slice x e.chunks.length cc] 53)) (below_alloc (w.alloc (.cells #[.string (str e.path), .int .i64 e.kind, .int .i64 e.size, .slice x e.chunks.length cc] 53)) (.cells #[.int .i64 0, .slice none 0 0] 42)))
  have FE0 := hide ((Four.new w (.string (str e.path)) (.int .i64 e.kind) (.int .i64 e.size) (.slice x e.chunks.length cc) 53).below (below_alloc (w.alloc (.cells #[.string (str e.path), .int .i64 e.kind, .int .i64 e.size, .slice x e.chunks.length cc] 53)) (.cells #[.int .i64 0, .slice none 0 0] 42)))
  have BX0 := hide (Box.new (w.alloc (.cells #[.string (str e.path), .int .i64 e.kind, .int .i64 e.size, .slice x e.chunks.length cc] 53)) (.int .i64 0) (.slice none 0 0) 42)
  have hsA : (w.alloc (.cells #[.string (str e.path), .int .i64 e.kind, .int .i64 e.size, .slice x e.chunks.length cc] 53)).heap.size = w.heap.size + 1 := by simp
  rw [hsA] at BX0
  have hs0 : ((w.alloc (.cells #[.string (str e.path), .int .i64 e.kind, .int .i64 e.size, .slice x e.chunks.length cc] 53)).alloc (.cells #[.int .i64 0, .slice none 0 0] 42)).heap.size = w.heap.size + 2 := by simp
  clear h hx hsA
  rw [parC_right hp, if_neg h0, parT_right hp] at HPO
  obtain ⟨hpp, hpb⟩ := parent_above hp h0
  have hppl : (parentP e.path).length ≤ 1048576 := by have := below_len hpb; omega
  have HEA0 := hide (fun u (hu : Below w.heap.size w u) => implEntryAt_any a c U.length U (parentP e.path) u (HR0.out.below hu) rfl (by omega) HSU.out hppl)
  rw [show findCodeP U (parentP e.path) = 4 by rw [findCodeP, if_pos (askP_of hR hpp), hd]; rfl] at HEA0
  have HEA : Hid (∀ u : World, Below w.heap.size w u → Calls Tryz.prog 23 #[.slice a U.length c, .string (str (parentP e.path))] u fun r w' => ∃ lv ln lc, r = .returned (.agg #[.int .i64 4, .slice lv ln lc]) ∧ Below u.heap.size u w') := hide (fun u hu => (HEA0.out u hu).mono (fun r w' ⟨lv, lc, h2, _, h4⟩ => ⟨lv, _, lc, h2, h4⟩))
  have hfl : ∀ (w : World) (F : Int) (v : Value), (Instr.field 42 (.agg #[.int .i64 F, v]) 0).run Tryz.prog w = .ok (.int .i64 F) w := fun _ _ _ => by kernel_rfl
  have HREC := hide hrec
  have HLL := hide hL
  have HQQ := hide hqq
  clear HEA0 hd hpp hpb hrec hL hqq
  go_enter_defers Tryz.func81, Tryz.ntmps81
  obtain ⟨f0, f1, f2, f3⟩ := FE0.out
  go_wp2_with fail
  clear f0 f1 f2 f3
  generalize ((w.alloc (.cells #[.string (str e.path), .int .i64 e.kind, .int .i64 e.size, .slice x e.chunks.length cc] 53)).alloc (.cells #[.int .i64 0, .slice none 0 0] 42)) = W0 at *
  refine (HPO.out W0).mono ?_
  rintro r w1 ⟨rfl, hb1⟩
  generalize parentP e.path = PT at *
  have A1 := hide (below_next hb1 (below_alloc w1 (.cells #[.int .i64 0, .string (str PT)] 147)))
  have T1 := hide (Box.new w1 (.int .i64 0) (.string (str PT)) 147)
  have BX1 := hide (BX0.out.below A1.out)
  have FE1 := hide (FE0.out.below A1.out)
  have B1 := hide (below_next B0.out A1.out)
  have hs1 := A1.out.size
  clear hb1 HPO
  obtain ⟨⟨s0, s1⟩, s2, s3⟩ := T1.out
  obtain ⟨⟨t0, t1⟩, t2, t3⟩ := BX1.out
  go_wp2_with fail
  clear s0 s1 s2 s3 t0 t1 t2 t3
  generalize w1.alloc (.cells #[.int .i64 0, .string (str PT)] 147) = V1 at *
  generalize w1.heap.size = bT at *
  refine (HEA.out V1 B1.out).mono ?_
  rintro r W1 ⟨lv, ln, lc, rfl, hbE⟩
  have BX1' := hide (BX1.out.below hbE)
  have FE1' := hide (FE1.out.below hbE)
  have B1' := hide (below_next B1.out hbE)
  have T1' := hide (T1.out.below hbE)
  have hsE := hbE.size
  clear BX1 FE1 B1 hbE T1
  have BX1 := BX1'
  have FE1 := FE1'
  have B1 := B1'
  have T1 := T1'
  clear BX1' FE1' B1' T1'
  obtain ⟨⟨s0, s1⟩, s2, s3⟩ := T1.out
  obtain ⟨⟨t0, t1⟩, t2, t3⟩ := BX1.out
  go_wp2_with fail
  clear s0 s1 s2 s3 t0 t1 t2 t3
  refine (HREC.out W1 B1.out).mono ?_
  rintro r w4 ⟨av4, cv4, rfl, hG4, hb4⟩
  have BX4 := hide (BX1.out.below hb4)
  have FE4 := hide (FE1.out.below hb4)
  have B4 := hide (below_next B1.out hb4)
  have G4 := hide hG4
  have hs4 := hb4.size
  clear hG4 hb4 BX1 FE1 B1 T1
  obtain ⟨⟨t0, t1⟩, t2, t3⟩ := BX4.out
  generalize hN4 : L.length = N4 at *
  go_wp2_with fail
  clear t0 t1 t2 t3
  have BX5 := hide (boxC_two BX4.out (.int .i64 q) (.slice av4 N4 cv4))
  have hne : w.heap.size ≠ w.heap.size + 1 := by omega
  have KT : Hid (Kept (fun b => b = w.heap.size + 1) w4 ((w4.setCell ⟨w.heap.size + 1, 0, none⟩ (.int .i64 q)).setCell ⟨w.heap.size + 1, 1, none⟩ (.slice av4 N4 cv4))) := hide (Kept.two w4 (w.heap.size + 1) 0 1 _ _)
  have hzW : ((w4.setCell ⟨w.heap.size + 1, 0, none⟩ (.int .i64 q)).setCell ⟨w.heap.size + 1, 1, none⟩ (.slice av4 N4 cv4)).heap.size = w4.heap.size := by simp [World.setCell]
  have BW : Hid (Below w.heap.size w ((w4.setCell ⟨w.heap.size + 1, 0, none⟩ (.int .i64 q)).setCell ⟨w.heap.size + 1, 1, none⟩ (.slice av4 N4 cv4))) := hide ((B4.out.setCell (p := ⟨w.heap.size + 1, 0, none⟩) (by show w.heap.size ≤ w.heap.size + 1; omega) _).setCell (p := ⟨w.heap.size + 1, 1, none⟩) (by show w.heap.size ≤ w.heap.size + 1; omega) _)
  have FE5 := hide (four_kept FE4.out KT.out hne)
  have G5 := hide (ge_box (u := .int .i64 q) (v := .slice av4 N4 cv4) G4.out (show w.heap.size + 1 < W1.heap.size by omega))
  refine leaves_cons (f := 132) (args := #[.pointer (some ⟨w.heap.size + 1, 0, none⟩), .pointer (some ⟨w.heap.size, 0, none⟩)]) (by simp) (by simp [go_sem]) ?_
  generalize (w4.setCell ⟨w.heap.size + 1, 0, none⟩ (.int .i64 q)).setCell ⟨w.heap.size + 1, 1, none⟩ (.slice av4 N4 cv4) = W5 at *
  by_cases hq : q = 0
  · subst hq
    obtain ⟨hRL, hSL⟩ := HLL.out rfl
    have hL12 := hRL.len
    refine (fillLit_put (w.heap.size + 1) w.heap.size av4 N4 cv4 L e x cc .returning W5 BX5.out FE5.out G5.out.rd hN4.symm (by omega) hSL (HX0.out.below BW.out) hpl hcl).mono ?_
    rintro r u' w' ⟨rfl, rfl, w6, av6, cv6, hb6, hG6, rfl⟩
    have BX6 := BX5.out.below hb6
    obtain ⟨⟨t0, t1⟩, t2, t3⟩ := BX6
    have HF := hide (ResE.of (q := putCodeP L e) (w2 := w) (u := .int .i64 (putCodeP L e)) (v := .slice av6 (putListP L e).length cv6) (show w.heap.size + 1 < W5.heap.size by omega) (by omega) rfl hG6 (below_next BW.out hb6))
    obtain ⟨e1, e2⟩ := HQQ.out.1 rfl
    subst e1
    subst e2
    simp [Leaves, settle, results, Tryz.results81, go_sem, t0, t1]
    exact HF.out
  · refine (fillLit_skip (w.heap.size + 1) w.heap.size q _ .returning W5 BX5.out hq).mono ?_
    rintro r u' w' ⟨rfl, rfl, rfl⟩
    obtain ⟨⟨t0, t1⟩, t2, t3⟩ := BX5.out
    have HF : Hid (ResE q L w (.returned (.agg #[.int .i64 q, .slice av4 N4 cv4])) w') := hide ⟨av4, cv4, by rw [hN4], by rw [hN4]; exact (G5.out.mono (by omega)).wide (by omega), BW.out⟩
    obtain ⟨e1, e2⟩ := HQQ.out.2 hq
    subst e1
    subst e2
    simp [Leaves, settle, results, Tryz.results81, go_sem, t0, t1]
    exact HF.out
theorem filledUp_any (a : Option Addr) (c : Nat) (U : List En) (hR : Right U) : ∀ (n : Nat) (e : En) (x : Option Addr) (cc : Nat) (w : World), (above e.path).length = n → faultP e.path = 0 → RdE w a U → Reads .i64 w x e.chunks → e.path.length ≤ 1048576 → e.chunks.length ≤ 1048576 →
    Calls Tryz.prog 81 #[.slice a U.length c, .agg #[.string (str e.path), .int .i64 e.kind, .int .i64 e.size, .slice x e.chunks.length cc]] w (ResE (filR n U e).1 (filR n U e).2 w) := by
  intro n
  induction n with
  | zero =>
    intro e x cc w hn hp h hx hpl hcl
    exact filledUp_top a c U hR e x cc w hp h hx hpl hcl (parU_none hp hn)
  | succ n ih =>
    intro e x cc w hn hp h hx hpl hcl
    have h0 : parentP e.path ≠ [] := fun e0 => by
      have h1 := above_kid hp rfl
      rw [if_pos e0] at h1
      rw [h1] at hn
      simp at hn
    obtain ⟨hpp, hpb⟩ := parent_above hp h0
    cases hd : findE U (parentP e.path) with
    | some d =>
      have hnn : needsU U e = false := by simp [needsU, hd]
      rw [filR_none hnn]
      exact filledUp_in a c U hR e x cc w hp h hx hpl hcl h0 d hd
    | none =>
      have hnn : needsU U e = true := by simp [needsU, hd, h0]
      refine filledUp_rec a c U hR e x cc w hp h hx hpl hcl h0 hd (filR n U (dirQ (parentP e.path))).1 _ (filR n U (dirQ (parentP e.path))).2 _ ⟨fun hq => by rw [filR_put hnn hq]; exact ⟨rfl, rfl⟩, fun hq => by rw [filR_bad hnn hq]; exact ⟨rfl, rfl⟩⟩ (fun hz => filR_zero hz)
        (fun u hu => ih (dirQ (parentP e.path)) none 0 u (parN hp h0 hn) hpp (h.below hu) (fun hz => absurd rfl hz) (by have := below_len hpb; show (parentP e.path).length ≤ 1048576; omega) (by simp [dirQ]))
end Go.Proofs.YtebgfaohhhgdpaaGreat

namespace Go.Proofs.YtebgfaohhhgdpaaGreat
open Go.RowKit Go.Maps
set_option linter.unusedVariables false
attribute [local go_sem ↓] Go.wp_at_zero Go.wp_at_succ

/-- What written tells and leaves. -/
def filU (U : List En) (e : En) : Int × List En := filR (above e.path).length U e
def wrtR (U : List En) (e : En) : Int := (filU U e).1
def wrtL (U : List En) (e : En) : List En := if (filU U e).1 = 0 then (filU U e).2 else U
set_option maxRecDepth 100000 in
set_option maxHeartbeats 3200000 in
theorem written_any (a : Option Addr) (c n : Nat) (U : List En) (e : En) (x : Option Addr) (m cc : Nat) (w : World) (hR : Right U) (h : RdE w a U) (hn : n = U.length) (hp : faultP e.path = 0) (hm : m = e.chunks.length) (hx : Reads .i64 w x e.chunks) (hpl : e.path.length ≤ 1048576) (hcl : e.chunks.length ≤ 1048576) :
    Calls Tryz.prog 32 #[.slice a n c, .agg #[.string (str e.path), .int .i64 e.kind, .int .i64 e.size, .slice x m cc]] w (ResG 0 (wrtR U e) (wrtL U e) w) := by
  subst hn
  subst hm
  have B0 := hide (below_next (below_alloc w (.cells #[.string (str e.path), .int .i64 e.kind, .int .i64 e.size, .slice x e.chunks.length cc] 53)) (below_alloc (w.alloc (.cells #[.string (str e.path), .int .i64 e.kind, .int .i64 e.size, .slice x e.chunks.length cc] 53)) (.cells #[.int .i64 0, .int .i64 0, .slice none 0 0] 32)))
  have FE0 := hide ((Four.new w (.string (str e.path)) (.int .i64 e.kind) (.int .i64 e.size) (.slice x e.chunks.length cc) 53).below (below_alloc (w.alloc (.cells #[.string (str e.path), .int .i64 e.kind, .int .i64 e.size, .slice x e.chunks.length cc] 53)) (.cells #[.int .i64 0, .int .i64 0, .slice none 0 0] 32)))
  have X0 := hide (Box3.new (w.alloc (.cells #[.string (str e.path), .int .i64 e.kind, .int .i64 e.size, .slice x e.chunks.length cc] 53)) (.int .i64 0) (.int .i64 0) (.slice none 0 0) 32)
  have hsA : (w.alloc (.cells #[.string (str e.path), .int .i64 e.kind, .int .i64 e.size, .slice x e.chunks.length cc] 53)).heap.size = w.heap.size + 1 := by simp
  rw [hsA] at X0
  have HF := hide (fun u (hu : Below w.heap.size w u) => filledUp_any a c U hR (above e.path).length e x cc u rfl hp (h.below hu) (hx.below hu) hpl hcl)
  have hlU := hR.len
  have HST := hide (fun (q : Int) u (hu : Below w.heap.size w u) => stays_any a c U.length U q u (h.below hu) rfl (by omega) (right_small hR))
  have HQ := hide (show wrtR U e = (filU U e).1 ∧ ((filU U e).1 = 0 → wrtL U e = (filU U e).2) ∧ ((filU U e).1 ≠ 0 → wrtL U e = U) from ⟨rfl, fun h => by rw [wrtL, if_pos h], fun h => by rw [wrtL, if_neg h]⟩)
  have e9 : filR (above e.path).length U e = filU U e := rfl
  rw [e9] at HF
  clear e9 h hx hsA hR
  generalize filU U e = FU at *
  obtain ⟨q, L⟩ := FU
  have hQ1 := HQ.out.1
  have hQ2 := HQ.out.2
  simp only at hQ1 hQ2 HF
  have HQ1 := hide hQ1
  have HQ2 := hide hQ2
  clear hQ1 hQ2 HQ
  go_enter Tryz.func32, Tryz.ntmps32
  obtain ⟨f0, f1, f2, f3⟩ := FE0.out
  go_wp2_with fail
  clear f0 f1 f2 f3
  generalize hW0 : (w.alloc (.cells #[.string (str e.path), .int .i64 e.kind, .int .i64 e.size, .slice x e.chunks.length cc] 53)).alloc (.cells #[.int .i64 0, .int .i64 0, .slice none 0 0] 32) = W0 at *
  clear hW0
  have hlt := X0.out.lt
  refine (HF.out W0 B0.out).mono ?_
  rintro r w1 ⟨av, cv, rfl, hG1, hb1⟩
  have A1 := hide (below_alloc w1 (.cells #[.int .i64 q, .slice av L.length cv] 42))
  have T1 := hide (Box.new w1 (.int .i64 q) (.slice av L.length cv) 42)
  have B1 := hide (below_next B0.out (below_next hb1 A1.out))
  have X1 := hide (X0.out.below (below_next hb1 A1.out))
  have G1 := hide ((GW.of hG1).below A1.out)
  have hs1 := hb1.size
  clear hG1 hb1 HF A1
  obtain ⟨⟨s0, s1⟩, s2, s3⟩ := T1.out
  obtain ⟨⟨t0, t1, t2⟩, t3, t4, t5⟩ := X1.out
  by_cases hq : q = 0
  · subst hq
    have HL := hide (HQ2.out.1 rfl)
    go_wp2_with fail
    exact bodyPost_ret (v := .agg #[.int .i64 0, .int .i64 0, .slice av L.length cv]) (by simp [results, Tryz.results32, go_sem, t0, t1, t2]) rfl (by rw [HQ1.out, HL.out]; exact ResG.of (by omega) (by omega) rfl G1.out B1.out)
  · have HL := hide (HQ2.out.2 hq)
    have hq2 : (q != 0) = true := by simp; exact hq
    clear hq
    go_wp2_with fail
    clear s0 s1 s2 s3 t0 t1 t2 t3 t4 t5
    generalize w1.alloc (.cells #[.int .i64 q, .slice av L.length cv] 42) = W1 at *
    refine (HST.out q W1 B1.out).mono ?_
    rintro r w2 ⟨av2, cv2, rfl, hG2, hb2⟩
    have B2 := hide (below_next B1.out hb2)
    have G2 := hide hG2
    have hltW := X1.out.lt
    obtain ⟨⟨t0, t1, t2⟩, t3, t4, t5⟩ := X1.out.below hb2
    clear hG2 hb2
    go_wp2_with fail
    exact bodyPost_ret (v := .agg #[.int .i64 0, .int .i64 q, .slice av2 U.length cv2]) (by simp [results, Tryz.results32, go_sem, t0, t1, t2]) rfl (by rw [HQ1.out, HL.out]; exact ResG.of (by omega) (by omega) rfl G2.out B2.out)
end Go.Proofs.YtebgfaohhhgdpaaGreat

namespace Go.Proofs.YtebgfaohhhgdpaaGreat
open Go.RowKit Go.Maps
set_option linter.unusedVariables false
attribute [local go_sem ↓] Go.wp_at_zero Go.wp_at_succ

/-- append(out, x): x laid in a block of its own, out owned; where the answer lies. -/
theorem wpList_append_one_at {P : Program} {wr : World} {news : Array Value} {ops : Array Oper} {rest : List Oper} {o : Oper} {a : Act} {Q : Exit → Act → World → Prop} (hgd : o.guard = none) (s x : Operand) (t : TypeId)
    (ho : o.op = .call { callee := .builtin .append, args := #[s, x], argTypes := #[t, t] })
    (base : Nat) (e : TypeId) (i : TypeInfo) (z : Value) (size bytes : Nat) (ht : P.underlying t = some (.slice e)) (hi : P.info? e = some i) (hz : i.zero = some z)
    (hsize : i.size = size) (hby : i.bytes = bytes) (hzs : z.cells.size = size) (hsz : 0 < size)
    (v : Value) (n : Nat) (xs : List Value) (hs : a.eval s = v) (hown : wr.ownsRow base e size v n xs)
    (hx : a.eval x = .slice (some ⟨wr.heap.size, 0, none⟩) 1 1) (hl : news.size = size) (h1 : ∀ u ∈ news.toList, u.oneCell' = true)
    (h63 : n + 1 ≤ maxLen) (hbytes : (n + 1) * bytes ≤ 140737488355328) (hbase : base ≤ wr.heap.size)
    (h : ∀ v' w', w'.ownsRow base e size v' (n + 1) (xs ++ news.toList) → Kept (fun b => v.ownBlock = some b) wr w' → (v'.ownBlock = v.ownBlock ∨ ∃ g, v'.ownBlock = some g ∧ wr.heap.size ≤ g) → wpList P ops Q rest (a.put o.dst v') w') :
    wpList P ops Q (o :: rest) a (wr.alloc (.cells news e)) := by
  refine wpList_append_own_at _ hgd s x t ho base e i z size bytes ht hi hz hsize hby hzs hsz v n xs hs (hown.alloc _) ⟨wr.heap.size, 0, none⟩ 1 1 news.toList hx (by simp [hl]) ?_ h1 h63 hbytes (by simp; omega) ?_
  · intro j u hj
    have hadd : (⟨wr.heap.size, 0, none⟩ : Addr).add j = ⟨wr.heap.size, j, none⟩ := by unfold Addr.add; split <;> simp_all
    rw [hadd, cell_of_row _ wr.heap.size j news e (0, 0) (heap_alloc_new wr _)]
    simpa using hj
  · intro v' w' ho' hg _ hat
    refine h v' w' ho' ⟨hg.os, hg.tape, hg.output, Nat.le_trans (by simp) hg.size, fun k hk hn => ?_⟩ ?_
    · rw [hg.block k (by simp; omega) (fun e => hn e.symm)]
      exact Below.heap_alloc _ _ _ hk
    · rcases hat with hat | hat
      · exact .inl hat
      · exact .inr ⟨_, hat, by simp⟩

set_option maxRecDepth 100000 in
set_option maxHeartbeats 800000 in
theorem l8Hides_top (a : Option Addr) (c n : Nat) (w : World) :
    Calls Tryz.prog 144 #[.slice a n c, .string (str [])] w fun r w' => r = .returned (.int .i64 0) ∧ w' = w := by
  have hs0 : ((str []).toList == []) = true := by rw [str_toList]; rfl
  go_enter Tryz.func144, Tryz.ntmps144
  go_wp2_with fail
  go_ret
  exact ⟨rfl, rfl⟩
theorem l8HidesQ_any (a : Option Addr) (c n : Nat) (es : List En) (q : Bs) (w : World) (h : RdE w a es) (hn : n = es.length) (hRi : Right es) (hq : q = [] ∨ faultP q = 0) (hql : q.length ≤ 1048576) :
    Calls Tryz.prog 144 #[.slice a n c, .string (str q)] w fun r w' => r = .returned (.int .i64 (hidQ es q)) ∧ Below w.heap.size w w' := by
  by_cases h0 : q = []
  · subst h0
    have e1 : hidQ es [] = 0 := by simp [hidQ]
    rw [e1]
    exact (l8Hides_top a c n w).mono (fun r w' ⟨h1, h2⟩ => ⟨h1, by rw [h2]; exact Below.refl _ _⟩)
  · have e1 : hidQ es q = hidN es q := by simp [hidQ, h0]
    rw [e1]
    exact l8Hides_any a c n es q w h hn (by have := hRi.len; omega) hRi (by rcases hq with hq | hq; exact absurd hq h0; exact hq) hql
theorem kids_in {es : List En} {q : Bs} {k : Nat} {e : En} (he : es[k]? = some e) (h : parentP e.path = q) : kidsE (es.take (k + 1)) q = kidsE (es.take k) q ++ [e] := by
  rw [take_at he]; simp [kidsE, h]
theorem kids_out {es : List En} {q : Bs} {k : Nat} {e : En} (he : es[k]? = some e) (h : parentP e.path ≠ q) : kidsE (es.take (k + 1)) q = kidsE (es.take k) q := by
  rw [take_at he]; simp [kidsE, h]
/-- Two rows of names, each in a block of its own, as the loop holds them. -/
structure TwoN (B : Nat) (w : World) (ov sv : Value) (D : List En) : Prop where
  out : OwnS B w ov (runN D).2
  seen : OwnS B w sv (runN D).1
  apart : ∀ g, ov.ownBlock = some g → sv.ownBlock ≠ some g
theorem TwoN.below {B : Nat} {w w' : World} {ov sv : Value} {D : List En} (h : TwoN B w ov sv D) (hb : Below w.heap.size w w') : TwoN B w' ov sv D := ⟨h.out.below hb, h.seen.below hb, h.apart⟩
theorem TwoN.skip {B : Nat} {w : World} {ov sv : Value} {D : List En} {e : En} (h : TwoN B w ov sv D) (hm : lastP e.path ∈ (runN D).1) : TwoN B w ov sv (D ++ [e]) := by
  have : runN (D ++ [e]) = runN D := by rw [runN_snoc, stepN, if_pos hm]
  exact ⟨by rw [this]; exact h.out, by rw [this]; exact h.seen, h.apart⟩
theorem TwoN.lens {B : Nat} {w : World} {ov sv : Value} {D : List En} (h : TwoN B w ov sv D) : (runN D).1.length ≤ D.length ∧ (runN D).2.length ≤ D.length := ⟨(runN_says D).2.2.2.1, (runN_says D).2.2.2.2⟩

set_option maxRecDepth 100000 in
set_option maxHeartbeats 12800000 in
theorem l8Names_any (a : Option Addr) (c n : Nat) (ls : List (List En)) (q : Bs) (w : World) (h : RdL w a ls) (hn : n = ls.length) (h4 : ls.length ≤ 4) (hR : ∀ es ∈ ls, Right es) (hq : q = [] ∨ faultP q = 0) (hql : q.length ≤ 1048576) :
    Calls Tryz.prog 91 #[.slice a n c, .string (str q)] w fun r w' => ∃ av cv, r = .returned (.slice av (namesE (allE ls) q).length cv) ∧ OwnS w.heap.size w' (.slice av (namesE (allE ls) q).length cv) (namesE (allE ls) q) ∧ Below w.heap.size w w' := by
  subst hn
  obtain ⟨i1, ki, kz0, kz1, kz2⟩ := info_parts infoS
  have HR := hide h
  have HRi := hide hR
  have HQ := hide hq
  have HNM := hide (come_names hR h4 q)
  have HCL := hide (come_len (q := q) hR ls.length (Nat.le_refl _))
  have hw1 : IntKind.i64.wrap ((ls.length : Int) - 1) = (ls.length : Int) - 1 := by simp [IntKind.wrap, IntKind.signed, IntKind.bits]; omega
  have B0 := hide (below_next (below_alloc w (.cells #[] 9)) (below_alloc (w.alloc (.cells #[] 9)) (.cells #[] 9)))
  have T0 : Hid (TwoN w.heap.size ((w.alloc (.cells #[] 9)).alloc (.cells #[] 9)) (.slice (some ⟨w.heap.size, 0, none⟩) 0 0) (.slice (some ⟨w.heap.size + 1, 0, none⟩) 0 0) []) := hide ⟨ownsRow_below (made_none w) (below_alloc _ _), by have := made_none (w.alloc (.cells #[] 9)); rw [show (w.alloc (.cells #[] 9)).heap.size = w.heap.size + 1 by simp] at this; exact ownsRow_mono this (by omega), fun g h1 h2 => by simp [Value.ownBlock] at h1 h2; omega⟩
  clear h hR hq
  generalize hDD : comeD ls q ls.length = DD at *
  have HDD := hide hDD
  clear hDD
  go_enter Tryz.func91, Tryz.ntmps91
  go_wp2_with fail
  generalize (w.alloc (.cells #[] 9)).alloc (.cells #[] 9) = W0 at *
  go_loopw [5, 6, 7] (fun ov sv i wr => ∃ (k : Nat) (D : List En), k ≤ ls.length ∧ i = .int .i64 ((k : Int) - 1) ∧ Hid (D ++ comeD ls q k = DD) ∧ Hid (TwoN w.heap.size wr ov sv D) ∧ Hid (Below w.heap.size w wr)) (fun _ _ i _ => (intOf i + 1).toNat)
  case atStart => exact ⟨ls.length, [], Nat.le_refl _, rfl, hide (by rw [List.nil_append]; exact HDD.out), T0, B0⟩
  case round =>
    obtain ⟨k, D, hk, hi, HD, HT, HW⟩ := hrel
    have hcl := HCL.out
    cases k with
    | zero =>
      rw [show ((0 : Nat) : Int) - 1 = -1 from rfl] at hi
      subst hi
      have HE := hide (show D = DD from by have := HD.out; simpa [comeD] using this)
      obtain ⟨ov, oc, hov⟩ := HT.out.out.shape
      have HO : Hid (OwnS w.heap.size wr (.slice ov (runN D).2.length oc) (namesE (allE ls) q)) := hide (by have := HT.out.out; rw [hov] at this; rw [← HNM.out, ← HE.out]; exact this)
      have HL := hide (show (runN D).2.length = (namesE (allE ls) q).length by rw [← HNM.out, HE.out])
      subst hov
      clear hcl
      go_wp2_with fail
      go_ret
      exact ⟨ov, oc, by rw [HL.out]; rfl, by rw [← HL.out]; exact HO.out, HW.out⟩
    | succ m =>
      rw [show ((m + 1 : Nat) : Int) - 1 = (m : Int) from by omega] at hi
      subst hi
      have hm0 : (0 : Int) ≤ (m : Int) := by omega
      have hm1 : (m : Int) < (ls.length : Int) := by omega
      have hm2 : IntKind.i64.wrap ((m : Int) - 1) = (m : Int) - 1 := by simp [IntKind.wrap, IntKind.signed, IntKind.bits]; omega
      obtain ⟨b, off, es, x, cc, rfl, hb, he, c0, hr⟩ := HR.out.at (k := m) (by omega)
      have hRi := HRi.out es (List.mem_of_getElem? he)
      have hel := hRi.len
      have HX := hide he
      have HRI := hide hRi
      have HSM := hide (right_small hRi)
      have HHI := hide (l8HidesQ_any x cc es.length es q wr (hr.below HW.out) rfl hRi HQ.out hql)
      have HRE := hide hr
      have KC : Hid (∀ w', Below w.heap.size w w' → w'.cell? ⟨b, off + m, none⟩ = some (.slice x es.length cc)) := hide (fun w' hb' => (hb'.cell (p := ⟨b, off + m, none⟩) hb).trans c0)
      clear he hRi hr c0
      have c0 := KC.out _ HW.out
      by_cases h2 : hidQ es q = 2
      · rw [h2] at HHI
        have HE := hide (show D = DD from by have := HD.out; rw [come_two HX.out h2, List.append_nil] at this; exact this)
        obtain ⟨ov, oc, hov⟩ := HT.out.out.shape
        have HO : Hid (OwnS w.heap.size wr (.slice ov (runN D).2.length oc) (namesE (allE ls) q)) := hide (by have := HT.out.out; rw [hov] at this; rw [← HNM.out, ← HE.out]; exact this)
        have HL := hide (show (runN D).2.length = (namesE (allE ls) q).length by rw [← HNM.out, HE.out])
        subst hov
        clear hcl h2
        go_wp2_with fail
        refine HHI.out.mono ?_
        rintro r w1 ⟨rfl, hb1⟩
        have B1 := hide hb1
        clear hb1 c0
        go_wp2_with fail
        go_ret
        exact ⟨ov, oc, by rw [HL.out]; rfl, by rw [← HL.out]; exact HO.out.below B1.out, below_next HW.out B1.out⟩
      · have hn2 : (hidQ es q == 2) = false := by simpa using h2
        have HKD : Hid ((D ++ kidsE es q).length ≤ 12 * ls.length) := hide (by
          have := HD.out
          by_cases h1 : hidQ es q = 1
          · rw [come_one HX.out h1] at this; rw [this]; exact hcl
          · rw [come_on HX.out h2 h1, ← List.append_assoc] at this
            have h5 := congrArg List.length this
            rw [List.length_append] at h5
            omega)
        have HHq := hide (show (hidQ es q = 1 → D ++ kidsE es q = DD) ∧ (hidQ es q ≠ 1 → (D ++ kidsE es q) ++ comeD ls q m = DD) from ⟨fun h1 => by have := HD.out; rw [come_one HX.out h1] at this; exact this, fun h1 => by have := HD.out; rw [come_on HX.out h2 h1, ← List.append_assoc] at this; exact this⟩)
        generalize hidQ es q = HH at *
        clear h2 hcl
        go_wp2_with fail
        refine HHI.out.mono ?_
        rintro r w1 ⟨rfl, hb1⟩
        have B1 := hide (below_next HW.out hb1)
        have T1 := hide (HT.out.below hb1)
        clear hb1 c0 HT HHI HW
        go_wp2_with fail
        go_loopw [5, 6, 9] (fun ov sv i wx => ∃ j : Nat, j ≤ es.length ∧ i = .int .i64 j ∧ Hid (TwoN w.heap.size wx ov sv (D ++ kidsE (es.take j) q)) ∧ Hid (Below w.heap.size w wx)) (fun _ _ i _ => es.length - (intOf i).toNat)
        case atStart => exact ⟨0, Nat.zero_le _, rfl, hide (by simpa [kidsE] using T1.out), B1⟩
        case round =>
          obtain ⟨j, hj, rfl, HT, HW⟩ := hrel
          have c1 := KC.out _ HW.out
          obtain ⟨ov, oc, hov⟩ := HT.out.out.shape
          obtain ⟨sv, sc, hsv⟩ := HT.out.seen.shape
          subst hov
          subst hsv
          obtain ⟨LS, hLS⟩ : ∃ LS, LS = (runN (D ++ kidsE (es.take j) q)).1.length := ⟨_, rfl⟩
          obtain ⟨LO, hLO⟩ : ∃ LO, LO = (runN (D ++ kidsE (es.take j) q)).2.length := ⟨_, rfl⟩
          have hlens := HT.out.lens
          rw [← hLS, ← hLO] at HT hlens ⊢
          have HLS := hide hLS
          have HLO := hide hLO
          clear hLS hLO
          by_cases hlt : j < es.length
          · obtain ⟨bb, off2, e, xx, c2, hxe, hbb, he, y0, y1, y2, y3, hre⟩ := (HRE.out.below HW.out).at hlt
            subst hxe
            have hpf := entFault_zero (HRI.out.ent e (List.mem_of_getElem? he))
            have hpos := path_pos hpf
            have hsm := HSM.out e (List.mem_of_getElem? he)
            have HXe := hide he
            have hj0 : (0 : Int) ≤ (j : Int) := by omega
            have hj1 : (j : Int) < (es.length : Int) := by omega
            have HP := hide (show (aboveN (cutB (str e.path).data.toList.tail)).getLastD [] = parentP e.path from by rw [str_data]; rfl)
            have HLA := hide (show lastN (cutB (str e.path).data.toList.tail) = lastP e.path from by rw [str_data]; rfl)
            have BA := hide (below_alloc wr (.cells #[.string (str e.path), .int .i64 e.kind, .int .i64 e.size, .slice xx e.chunks.length c2] 53))
            have F0 := hide (Four.new wr (.string (str e.path)) (.int .i64 e.kind) (.int .i64 e.size) (.slice xx e.chunks.length c2) 53)
            have hkj : (D ++ kidsE (es.take j) q).length ≤ 48 := by
              have h5 := HKD.out
              have h6 : (kidsE (es.take j) q).length ≤ (kidsE es q).length := ((List.take_sublist j es).filter _).length_le
              rw [List.length_append] at h5 ⊢
              omega
            clear he hre hpf
            obtain ⟨t0, t1, t2, t3⟩ := F0.out
            go_wp2_with fail
            clear t0 t1 t2 t3 y0 y1 y2 y3 c1
            generalize wr.alloc (.cells #[.string (str e.path), .int .i64 e.kind, .int .i64 e.size, .slice xx e.chunks.length c2] 53) = WE at *
            refine (l3Last_any _ _ (by rw [str_size]; omega) (by rw [str_size]; omega)).mono ?_
            rintro r w2 ⟨rfl, hb2⟩
            rw [HLA.out]
            have F2 := hide (F0.out.below hb2)
            have BE2 := hide (below_next BA.out hb2)
            clear hb2
            have t0 := F2.out.1
            go_wp2_with fail
            clear t0
            refine (l3Parent_any _ _ (by rw [str_size]; omega) (by rw [str_size]; omega)).mono ?_
            rintro r w3 ⟨rfl, hb3⟩
            rw [HP.out]
            have F3 := hide (F2.out.below hb3)
            have BE3 := hide (below_next BE2.out hb3)
            have T3 := hide (HT.out.below BE3.out)
            have B3 := hide (below_next HW.out BE3.out)
            have hwz := B3.out.size
            have k3 := F3.out.2.1
            have k0 := F3.out.1
            clear hb3 F2 F0
            by_cases hqq : parentP e.path = q
            · have hs1 := str_yes hqq
              have HKI := hide (show D ++ kidsE (es.take (j + 1)) q = (D ++ kidsE (es.take j) q) ++ [e] from by rw [kids_in HXe.out hqq, List.append_assoc])
              clear hqq
              have HIN := hide (l8In_any sv sc LS (runN (D ++ kidsE (es.take j) q)).1 (lastP e.path) w3 (T3.out.seen.reads) HLS.out (by rw [← HLS.out]; omega))
              by_cases hmm : lastP e.path ∈ (runN (D ++ kidsE (es.take j) q)).1
              · rw [decide_eq_true hmm] at HIN
                have TN := hide (T3.out.skip hmm)
                clear hmm
                go_wp2_with fail
                refine HIN.out.mono ?_
                rintro r w4 ⟨rfl, hw4⟩
                have hw5 := hw4.symm
                clear hw4
                subst hw5
                go_wp2_with fail
                go_roundw
                case rel => exact ⟨j + 1, by omega, by go_num, hide (by rw [HKI.out]; exact TN.out), B3⟩
                case measure => simp [intOf]; omega
              · rw [decide_eq_false hmm] at HIN
                have HMM := hide hmm
                clear hmm
                have hm3 : LS + 1 ≤ maxLen := by unfold maxLen; omega
                have hm4 : (LS + 1) * 16 ≤ 140737488355328 := by omega
                have OS3 : Hid (w3.ownsRow w.heap.size 9 1 (.slice sv LS sc) LS ((runN (D ++ kidsE (es.take j) q)).1.map vS)) := by have := T3.out.seen; unfold OwnS at this; rw [← HLS.out] at this; exact this
                have HAP : Hid (∀ (W : World), Kept (fun b => (Value.slice sv LS sc).ownBlock = some b) w3 W → W.cell? ⟨wr.heap.size, 1, none⟩ = some (.int .i64 e.kind)) := hide (fun W hK => (hK.cell (p := ⟨wr.heap.size, 1, none⟩) F3.out.lt (fun hq => absurd (HT.out.seen.lt _ hq).2 (Nat.lt_irrefl _))).trans F3.out.2.1)
                by_cases h3 : e.kind = 3
                · have h3' : (e.kind != 3) = false := by simp [h3]
                  have HST := hide (show runN ((D ++ kidsE (es.take j) q) ++ [e]) = ((runN (D ++ kidsE (es.take j) q)).1 ++ [lastP e.path], (runN (D ++ kidsE (es.take j) q)).2) from by rw [runN_snoc, stepN, if_neg HMM.out, if_pos h3])
                  clear h3
                  go_wp2_with fail
                  refine HIN.out.mono ?_
                  rintro r w4 ⟨rfl, hw4⟩
                  have hw5 := hw4.symm
                  clear hw4
                  subst hw5
                  go_wp2_with (at_builtin; refine wpList_append_one_at rfl (.tmp 58) (.tmp 60) 83 rfl w.heap.size 9 i1 (.string ⟨#[]⟩) 1 16 Tryz.underlying83 ki kz0 kz1 kz2 rfl (by decide) _ _ _ rfl OS3.out rfl rfl (by intro u hu; simp at hu; subst hu; rfl) hm3 hm4 hwz ?_; intro v' w5 hown5 hkept hat; have O5 := hide (show OwnS w.heap.size w5 v' ((runN (D ++ kidsE (es.take j) q)).1 ++ [lastP e.path]) from OwnS.snoc (by rw [← HLS.out]; exact hown5) rfl); have K5 := hide hkept; have A5 := hide hat; have k5 := HAP.out _ hkept; clear hown5 hkept hat)
                  go_roundw
                  case rel =>
                    refine ⟨j + 1, by omega, by go_num, hide ?_, hide ?_⟩
                    · rw [HKI.out]
                      refine ⟨?_, ?_, ?_⟩
                      · rw [HST.out]; exact T3.out.out.kept K5.out (fun g hg => T3.out.apart g hg)
                      · rw [HST.out]; exact O5.out
                      · intro g hg hg2
                        rcases A5.out with h8 | ⟨g', h8, h9⟩
                        · rw [h8] at hg2; exact T3.out.apart g hg hg2
                        · rw [h8] at hg2
                          have := (T3.out.out.lt g hg).2
                          simp at hg2
                          omega
                    · exact Kept.below_own B3.out hwz OS3.out K5.out
                  case measure => simp [intOf]; omega
                · have h3' : (e.kind != 3) = true := by simp [h3]
                  have HST := hide (show runN ((D ++ kidsE (es.take j) q) ++ [e]) = ((runN (D ++ kidsE (es.take j) q)).1 ++ [lastP e.path], putS (runN (D ++ kidsE (es.take j) q)).2 (lastP e.path)) from by rw [runN_snoc, stepN, if_neg HMM.out, if_neg h3])
                  clear h3
                  have HPUT : Hid (∀ (W : World), Kept (fun b => (Value.slice sv LS sc).ownBlock = some b) w3 W → Calls Tryz.prog 120 #[.slice ov LO oc, .string (str (lastP e.path))] W fun r w' => ∃ av cv N, r = .returned (.slice av N cv) ∧ N = (putS (runN (D ++ kidsE (es.take j) q)).2 (lastP e.path)).length ∧ OwnS W.heap.size w' (.slice av N cv) (putS (runN (D ++ kidsE (es.take j) q)).2 (lastP e.path)) ∧ Below W.heap.size W w') := hide (fun W hK => (l8Put_any ov oc LO _ (lastP e.path) W (T3.out.out.kept hK (fun g hg => T3.out.apart g hg)) HLO.out (by rw [← HLO.out]; omega)).mono (fun r w' ⟨av, cv, h1, h2, h3⟩ => ⟨av, cv, _, h1, rfl, h2, h3⟩))
                  go_wp2_with fail
                  refine HIN.out.mono ?_
                  rintro r w4 ⟨rfl, hw4⟩
                  have hw5 := hw4.symm
                  clear hw4
                  subst hw5
                  go_wp2_with (at_builtin; refine wpList_append_one_at rfl (.tmp 58) (.tmp 60) 83 rfl w.heap.size 9 i1 (.string ⟨#[]⟩) 1 16 Tryz.underlying83 ki kz0 kz1 kz2 rfl (by decide) _ _ _ rfl OS3.out rfl rfl (by intro u hu; simp at hu; subst hu; rfl) hm3 hm4 hwz ?_; intro v' w5 hown5 hkept hat; have O5 := hide (show OwnS w.heap.size w5 v' ((runN (D ++ kidsE (es.take j) q)).1 ++ [lastP e.path]) from OwnS.snoc (by rw [← HLS.out]; exact hown5) rfl); have K5 := hide hkept; have A5 := hide hat; have k5 := HAP.out _ hkept; clear hown5 hkept hat)
                  refine (HPUT.out w5 K5.out).mono ?_
                  rintro r w6 ⟨av6, cv6, N6, rfl, hN6, hO6, hb6⟩
                  have HN6 := hide hN6
                  have O6 := hide hO6
                  have B6 := hide hb6
                  have BW5 := hide (Kept.below_own B3.out hwz OS3.out K5.out)
                  have hwz5 := BW5.out.size
                  clear hN6 hO6 hb6
                  go_wp2_with fail
                  go_roundw
                  case rel =>
                    refine ⟨j + 1, by omega, by go_num, hide ?_, hide ?_⟩
                    · rw [HKI.out]
                      refine ⟨?_, ?_, ?_⟩
                      · rw [HST.out]; exact O6.out.mono hwz5
                      · rw [HST.out]; exact O5.out.below B6.out
                      · intro g hg hg2
                        have h8 := (O6.out.lt g hg).1
                        have h9 := (O5.out.lt g hg2).2
                        omega
                    · exact below_next BW5.out B6.out
                  case measure => simp [intOf]; omega
            · have hs1 := str_no hqq
              have HKI := hide (show D ++ kidsE (es.take (j + 1)) q = D ++ kidsE (es.take j) q from by rw [kids_out HXe.out hqq])
              clear hqq
              go_wp2_with fail
              go_roundw
              case rel => exact ⟨j + 1, by omega, by go_num, hide (by rw [HKI.out]; exact T3.out), B3⟩
              case measure => simp [intOf]; omega
          · have hE : es.take j = es := List.take_of_length_le (by omega)
            rw [hE] at HT HLS HLO
            clear hE
            by_cases h1 : HH = 1
            · have HE := hide (HHq.out.1 h1)
              have HO : Hid (OwnS w.heap.size wr (.slice ov LO oc) (namesE (allE ls) q)) := hide (by have := HT.out.out; rw [← HNM.out, ← HE.out]; exact this)
              have HL := hide (show LO = (namesE (allE ls) q).length by rw [← HNM.out, ← HE.out]; exact HLO.out)
              subst h1
              go_wp2_with fail
              go_ret
              exact ⟨ov, oc, by rw [← HL.out]; rfl, by rw [← HL.out]; exact HO.out, HW.out⟩
            · have HE := hide (HHq.out.2 h1)
              have h1' : (HH == 1) = false := by simpa using h1
              clear h1
              go_wp2_with fail
              go_roundw
              case rel => exact ⟨m, D ++ kidsE es q, by omega, rfl, HE, HT, HW⟩
              case measure => simp [intOf]
end Go.Proofs.YtebgfaohhhgdpaaGreat

