/-
  Texts put together: TreB TreR EntH TreN TreC TreD SeeS SeeT EntT DrawH OvrD CpyR MntA.
-/
import Derived.Test.YteegkblkfdnfiaaGreatKTold5
import Derived.Test.YteegkblkfdnfiaaGreatKTold2
import Derived.Shelf.Abstract
import Derived.Test.YteegkblkfdnfiaaGreatKTold1
import Derived.Test.YteegkblkfdnfiaaGreatKTold3
import Derived.Test.YteegkblkfdnfiaaGreatKTold7
import Derived.Test.YteegkblkfdnfiaaGreatKTold6
import Derived.Test.YteegkblkfdnfiaaGreatKTold4
import Derived.Deep.RegionLaw
import Derived.Deep.RegionWith
import Derived.Maps.AppendAt
import Derived.Laws.CopyRow
import Derived.ProofKit
import Derived.Deep.DrawnRows
namespace Go.Proofs.YteegkblkfdnfiaaGreat
open Go.RowKit Go.Maps
set_option linter.unusedVariables false
attribute [local go_sem ↓] Go.wp_at_zero Go.wp_at_succ

set_option maxRecDepth 100000 in
set_option maxHeartbeats 1600000 in
theorem hasI_any (a : Option Addr) (c n : Nat) (es : List En) (fn : FuncId) (cap : Array Value) (f : En → Bool) (w : World) (h : RdI w a es) (hn : n = es.length) (hl : es.length ≤ 1048576) (hs : SmallE es) (hf : Asks w fn cap f) :
    Calls Tryz.prog 137 #[.slice a n c, .func (.func fn) #[] cap] w fun r w' => r = .returned (.bool (es.any f)) ∧ Below w.heap.size w w' := by
  subst hn
  have HC := hide (first_any a c es.length es fn cap f w h rfl hl hs hf)
  clear h hf hs
  go_enter Tryz.func137, Tryz.ntmps137
  go_wp2_with fail
  refine HC.out.mono ?_
  rintro r w1 ⟨(⟨e, x, cc, hq, rfl, -⟩ | ⟨hq, rfl⟩), hb1⟩
  · have HA := hide (show es.any f = true from List.any_eq_true.2 ⟨e, List.mem_of_find?_eq_some hq, List.find?_some hq⟩)
    have B1 := hide hb1
    clear hb1 hq
    go_wp2_with fail
    go_ret
    exact ⟨ret_bool HA.out.symm, below_next B1.out (below_alloc _ _)⟩
  · have HA := hide (show es.any f = false from List.any_eq_false.2 (fun x hx => List.find?_eq_none.1 hq x hx))
    have B1 := hide hb1
    clear hb1 hq
    go_wp2_with fail
    go_ret
    exact ⟨ret_bool HA.out.symm, below_next B1.out (below_alloc _ _)⟩

theorem filter_in {es : List En} {f : En → Bool} {k : Nat} {e : En} (he : es[k]? = some e) (h : f e = true) : (es.take (k + 1)).filter f = (es.take k).filter f ++ [e] := by
  rw [take_snoc_at he, List.filter_append]; simp [h]
theorem filter_out {es : List En} {f : En → Bool} {k : Nat} {e : En} (he : es[k]? = some e) (h : f e = false) : (es.take (k + 1)).filter f = (es.take k).filter f := by
  rw [take_snoc_at he, List.filter_append]; simp [h]

set_option maxRecDepth 100000 in
set_option maxHeartbeats 3200000 in
theorem those_any (a : Option Addr) (c n : Nat) (es : List En) (fn : FuncId) (cap : Array Value) (f : En → Bool) (w : World) (h : RdI w a es) (hn : n = es.length) (hl : es.length ≤ 1048576) (hs : SmallE es) (hf : Asks w fn cap f) :
    Calls Tryz.prog 190 #[.slice a n c, .func (.func fn) #[] cap] w fun r w' => ∃ av cv, r = .returned (.slice av (es.filter f).length cv) ∧ LI w w' (.slice av (es.filter f).length cv) (es.filter f) ∧ Below w.heap.size w w' := by
  subst hn
  obtain ⟨i1, ki, kz0, kz1, kz2⟩ := info_parts Tryz.infoIt
  have eg := hf.1
  have HF := hide hf
  have HR := hide h
  have HS := hide hs
  clear h hf hs
  go_enter Tryz.func190, Tryz.ntmps190
  go_wp2_with fail
  go_loopw [5, 10] (fun v i wr => ∃ k : Nat, k ≤ es.length ∧ i = .int .i64 k ∧ Hid (LI w wr v ((es.take k).filter f)) ∧ Hid (Below w.heap.size w wr)) (fun _ i _ => es.length - (intOf i).toNat)
  case atStart => exact ⟨0, Nat.zero_le _, rfl, hide (LI.nil _ _), hide (Below.refl _ _)⟩
  case round =>
    obtain ⟨k, hk, rfl, HL, HW⟩ := hrel
    have hsz := HW.out.size
    obtain ⟨lv, lc, hv⟩ := HL.out.shape
    subst hv
    have hrl := List.length_filter_le f (es.take k)
    rw [List.length_take] at hrl
    by_cases hlt : k < es.length
    · obtain ⟨b, off, e, x, cc, rfl, hb, he, c0, c1, c2, c3, hr⟩ := (HR.out.below HW.out).at hlt
      obtain ⟨b', off', e', x', cc', hbb, hb', he', d0, d1, d2, d3, hr'⟩ := HR.out.at hlt
      simp only [Option.some.injEq, Addr.mk.injEq, and_true] at hbb
      obtain ⟨rfl, rfl⟩ := hbb
      have : e' = e := Option.some.inj (he'.symm.trans he)
      subst this
      have d1' := (HW.out.cell (p := ⟨b, off + k * 4 + 1, none⟩) hb').trans d1
      rw [c1] at d1'
      simp only [Option.some.injEq, Value.slice.injEq, true_and] at d1'
      obtain ⟨rfl, rfl⟩ := d1'
      have hsm := HS.out e' (List.mem_of_getElem? he)
      have HX := hide he
      have HRc := hide hr'
      clear he hr hr' he' d0 d1 d2 d3
      have BA := hide (below_alloc wr (.cells #[.int .i64 e'.size, .slice x e'.chunks.length cc, .string (str e'.path), .int .i64 e'.kind] 93))
      have F4 := hide (Four.new wr (.int .i64 e'.size) (.slice x e'.chunks.length cc) (.string (str e'.path)) (.int .i64 e'.kind) 93)
      go_wp2_with fail
      refine (HF.out.2 e' x cc _ hsm.1 hsm.2 (HRc.out.below (below_next HW.out BA.out)) (below_next HW.out BA.out)).mono ?_
      rintro r w3 ⟨rfl, hb3⟩
      have BB5 := hide (below_next BA.out hb3)
      obtain ⟨f0, f1, f2, f3⟩ := F4.out.below hb3
      clear hb3 c0 c1 c2 c3
      cases hq : f e'
      · have HN := hide (filter_out HX.out hq)
        clear hq
        go_wp2_with fail
        go_roundw
        case rel => exact ⟨k + 1, by omega, by go_num, hide (by rw [HN.out]; exact HL.out.below BB5.out), hide (below_next HW.out BB5.out)⟩
        case measure => simp [intOf]; omega
      · have HN := hide (filter_in HX.out hq)
        clear hq
        obtain ⟨rs, g1, g2, g3⟩ := HL.out
        have G1 := hide g1
        have G2 := hide (ownsRow_below g2 BB5.out)
        have G3 := hide g3
        clear g1 g2 g3
        obtain ⟨L, hL⟩ : ∃ L, L = ((es.take k).filter f).length := ⟨_, rfl⟩
        rw [← hL] at hrl G2 ⊢
        have HLn := hide hL
        clear hL
        have hm1 : L + 1 ≤ maxLen := by unfold maxLen; omega
        have hm1' : (L + 1) * 56 ≤ 140737488355328 := by omega
        have hsz5 := BB5.out.size
        go_wp2_with (at_builtin; refine wpList_append_put rfl (.tmp 17) (.tmp 19) 125 rfl w.heap.size 93 i1 (.agg #[.int .i64 0, .slice none 0 0, .string ⟨#[]⟩, .int .i64 0]) 4 56 Tryz.underlying125 ki kz0 kz1 kz2 rfl (by decide) _ _ _ rfl G2.out _ rfl rfl rfl (by intro u hu; simp at hu; rcases hu with rfl | rfl | rfl | rfl <;> rfl) hm1 hm1' (by omega) ?_; intro av6 cv6 w6 hown6 hk6; have O6 := hide hown6; have K6 := hide hk6; clear hown6 hk6)
        go_roundw
        case rel =>
          refine ⟨k + 1, by omega, by go_num, hide ?_, hide ?_⟩
          · rw [HN.out]
            exact LI.push (e := e') (a := x) (c := cc) G1.out HLn.out G3.out HRc.out O6.out
          · exact (below_next HW.out BB5.out).trans (K6.out.below (by omega) (fun q hq hS => by have := (G2.out.lt q hS).1; omega))
        case measure => simp [intOf]; omega
    · have HE := hide (show es.take k = es from List.take_of_length_le (by omega))
      rw [HE.out] at HL ⊢
      clear HE
      go_wp2_with fail
      go_ret
      exact ⟨lv, lc, rfl, HL.out, HW.out⟩

set_option maxRecDepth 100000 in
set_option maxHeartbeats 800000 in
theorem isAtLit_any (p : Bs) (b : Nat) (e : En) (a : Option Addr) (c : Nat) (w : World) (h : w.cell? ⟨b, 0, none⟩ = some (.string (str p))) :
    Calls Tryz.prog 256 #[.agg #[.int .i64 e.size, .slice a e.chunks.length c, .string (str e.path), .int .i64 e.kind], .pointer (some ⟨b, 0, none⟩)] w fun r w' => r = .returned (.bool (decide (e.path = p))) ∧ Below w.heap.size w w' := by
  have hb := World.block_lt_of_cell? w ⟨b, 0, none⟩ h
  have hs := str_beq e.path p
  generalize decide (e.path = p) = Z at *
  have hbw : (w.alloc (.cells #[.int .i64 e.size, .slice a e.chunks.length c, .string (str e.path), .int .i64 e.kind] 93)).cell? ⟨b, 0, none⟩ = some (.string (str p)) := ((below_alloc w _).cell (p := ⟨b, 0, none⟩) hb).trans h
  go_enter Tryz.func256, Tryz.ntmps256
  go_wp2_with fail
  go_ret
  exact ⟨rfl, below_alloc _ _⟩
theorem isAt_any (p : Bs) (w : World) :
    Calls Tryz.prog 231 #[.string (str p)] w fun r w' => r = .returned (.func (.func 256) #[] #[.pointer (some ⟨w.heap.size, 0, none⟩)]) ∧ Below w.heap.size w w' ∧ Asks w' 256 #[.pointer (some ⟨w.heap.size, 0, none⟩)] (fun e => decide (e.path = p)) := by
  have hmf : ∀ (fn : Fn) (first cap : Array Value) (w : World), (Instr.makeFunc fn first cap).run Tryz.prog w = .ok (.func fn first cap) w := fun _ _ _ _ => rfl
  go_enter Tryz.func231, Tryz.ntmps231
  go_wp2_with fail
  go_ret
  refine ⟨rfl, below_alloc _ _, enters_of Tryz.func256 (by kernel_rfl) rfl, fun e a c w' he _ _ hb => ?_⟩
  exact isAtLit_any p w.heap.size e a c w' ((hb.cell (p := ⟨w.heap.size, 0, none⟩) (by simp)).trans (by simp))

def inP (p : Bs) (e : En) : Bool := if parC e.path = 4 then decide (p = [47]) else decide (parT e.path = p)
set_option maxRecDepth 100000 in
set_option maxHeartbeats 800000 in
theorem isInLit_any (p : Bs) (b : Nat) (e : En) (a : Option Addr) (c : Nat) (w : World) (h : w.cell? ⟨b, 0, none⟩ = some (.string (str p))) (hl : e.path.length ≤ 1048576) :
    Calls Tryz.prog 243 #[.agg #[.int .i64 e.size, .slice a e.chunks.length c, .string (str e.path), .int .i64 e.kind], .pointer (some ⟨b, 0, none⟩)] w fun r w' => r = .returned (.bool (inP p e)) ∧ Below w.heap.size w w' := by
  have HB0 := hide (below_alloc w (.cells #[.int .i64 e.size, .slice a e.chunks.length c, .string (str e.path), .int .i64 e.kind] 93))
  have hb := World.block_lt_of_cell? w ⟨b, 0, none⟩ h
  have KC : Hid (∀ w' : World, Below w.heap.size w w' → w'.cell? ⟨b, 0, none⟩ = some (.string (str p))) := hide (fun w' hb' => (hb'.cell (p := ⟨b, 0, none⟩) hb).trans h)
  have HPC := hide (fun (u : World) => implParentOf_any (str e.path) u (by rw [str_size]; omega))
  rw [str_data] at HPC
  have hs1 : ((str p).toList == [47]) = decide (p = [47]) := by rw [str_toList]; by_cases h47 : p = [47] <;> simp [h47]
  have hs2 := str_beq (parT e.path) p
  have HI := hide (show inP p e = if parC e.path = 4 then decide (p = [47]) else decide (parT e.path = p) from rfl)
  generalize inP p e = Z at *
  generalize decide (p = [47]) = Z1 at *
  generalize decide (parT e.path = p) = Z2 at *
  generalize parT e.path = PT at *
  generalize parC e.path = PC at *
  clear h
  go_enter Tryz.func243, Tryz.ntmps243
  go_wp2_with fail
  refine (HPC.out _).mono ?_
  rintro r w1 ⟨rfl, hb1⟩
  have B1 := hide (below_next HB0.out hb1)
  have B2 := hide (below_next B1.out (below_alloc w1 (.cells #[.int .i64 PC, .string (str PT)] 203)))
  have hc := KC.out _ B2.out
  clear hb1
  by_cases h4 : PC = 4
  · have hb4 : (PC == 4) = true := by simp [h4]
    have HZ := hide (show Z = Z1 from by rw [HI.out, if_pos h4])
    clear h4
    go_wp2_with fail
    go_ret
    exact ⟨ret_bool HZ.out.symm, B2.out⟩
  · have hb4 : (PC == 4) = false := by simp [h4]
    have HZ := hide (show Z = Z2 from by rw [HI.out, if_neg h4])
    clear h4
    go_wp2_with fail
    go_ret
    exact ⟨ret_bool HZ.out.symm, B2.out⟩
theorem isIn_any (p : Bs) (w : World) :
    Calls Tryz.prog 207 #[.string (str p)] w fun r w' => r = .returned (.func (.func 243) #[] #[.pointer (some ⟨w.heap.size, 0, none⟩)]) ∧ Below w.heap.size w w' ∧ Asks w' 243 #[.pointer (some ⟨w.heap.size, 0, none⟩)] (inP p) := by
  have hmf : ∀ (fn : Fn) (first cap : Array Value) (w : World), (Instr.makeFunc fn first cap).run Tryz.prog w = .ok (.func fn first cap) w := fun _ _ _ _ => rfl
  go_enter Tryz.func207, Tryz.ntmps207
  go_wp2_with fail
  go_ret
  refine ⟨rfl, below_alloc _ _, enters_of Tryz.func243 (by kernel_rfl) rfl, fun e a c w' he _ _ hb => ?_⟩
  exact isInLit_any p w.heap.size e a c w' ((hb.cell (p := ⟨w.heap.size, 0, none⟩) (by simp)).trans (by simp)) he

set_option maxHeartbeats 800000 in
theorem isOfTree_any (p : ByteArray) (k z : Int) (a : Option Addr) (n c : Nat) (w : World) :
    Calls Tryz.prog 139 #[.agg #[.int .i64 z, .slice a n c, .string p, .int .i64 k]] w fun r w' => r = .returned (.bool (treeK k)) ∧ Below w.heap.size w w' := by
  by_cases h0 : k = 1
  · have e : treeK k = true := decide_eq_true (.inl h0)
    have hb : (k == 1) = true := by simp [h0]
    rw [e]
    clear e h0
    go_enter Tryz.func139, Tryz.ntmps139
    go_wp2
    go_ret
    exact ⟨rfl, below_alloc _ _⟩
  · have hb : (k == 1) = false := by simp [h0]
    by_cases h1 : k = 2
    · have e : treeK k = true := decide_eq_true (.inr h1)
      have hb1 : (k == 2) = true := by simp [h1]
      rw [e]
      clear e h0 h1
      go_enter Tryz.func139, Tryz.ntmps139
      go_wp2
      go_ret
      exact ⟨rfl, below_alloc _ _⟩
    · have e : treeK k = false := decide_eq_false (fun h => h.elim h0 h1)
      have hb1 : (k == 2) = false := by simp [h1]
      rw [e]
      clear e h0 h1
      go_enter Tryz.func139, Tryz.ntmps139
      go_wp2
      go_ret
      exact ⟨rfl, below_alloc _ _⟩

set_option maxRecDepth 100000 in
set_option maxHeartbeats 800000 in
theorem noTree_any (e : En) (a : Option Addr) (c : Nat) (w : World) :
    Calls Tryz.prog 138 #[.agg #[.int .i64 e.size, .slice a e.chunks.length c, .string (str e.path), .int .i64 e.kind]] w fun r w' => r = .returned (.bool (!treeK e.kind)) ∧ Below w.heap.size w w' := by
  have HC := hide (fun (u : World) => isOfTree_any (str e.path) e.kind e.size a e.chunks.length c u)
  generalize treeK e.kind = Z at *
  go_enter Tryz.func138, Tryz.ntmps138
  go_wp2_with fail
  refine (HC.out _).mono ?_
  rintro r w1 ⟨rfl, hb1⟩
  have B1 := hide (below_next (below_alloc w (.cells #[.int .i64 e.size, .slice a e.chunks.length c, .string (str e.path), .int .i64 e.kind] 93)) hb1)
  clear hb1
  go_wp2_with fail
  go_ret
  exact ⟨rfl, B1.out⟩
theorem noTree_asks (w : World) : Asks w 138 #[] (fun e => !treeK e.kind) :=
  ⟨enters_of Tryz.func138 (by kernel_rfl) rfl, fun e a c w' _ _ _ _ => noTree_any e a c w'⟩

set_option maxRecDepth 100000 in
set_option maxHeartbeats 800000 in
theorem withoutLit_any (b : Nat) (fn : FuncId) (cap : Array Value) (f : En → Bool) (W0 : World) (hf : Asks W0 fn cap f) (e : En) (a : Option Addr) (c : Nat) (w : World) (he : e.path.length ≤ 1048576) (hec : e.chunks.length ≤ 1048576) (hre : Reads .i64 w a e.chunks) (hw : Below W0.heap.size W0 w) (h : w.cell? ⟨b, 0, none⟩ = some (.func (.func fn) #[] cap)) :
    Calls Tryz.prog 191 #[.agg #[.int .i64 e.size, .slice a e.chunks.length c, .string (str e.path), .int .i64 e.kind], .pointer (some ⟨b, 0, none⟩)] w fun r w' => r = .returned (.bool (!f e)) ∧ Below w.heap.size w w' := by
  have eg := hf.1
  have B0 := hide (below_alloc w (.cells #[.int .i64 e.size, .slice a e.chunks.length c, .string (str e.path), .int .i64 e.kind] 93))
  have hb := World.block_lt_of_cell? w ⟨b, 0, none⟩ h
  have hc := (B0.out.cell (p := ⟨b, 0, none⟩) hb).trans h
  have HF := hide (hf.2 e a c _ he hec (hre.below B0.out) (below_next hw B0.out))
  generalize f e = Z at *
  clear h hf hre
  go_enter Tryz.func191, Tryz.ntmps191
  go_wp2_with fail
  refine HF.out.mono ?_
  rintro r w1 ⟨rfl, hb1⟩
  have B1 := hide (below_next B0.out hb1)
  clear hb1
  go_wp2_with fail
  go_ret
  exact ⟨rfl, B1.out⟩
set_option maxRecDepth 100000 in
set_option maxHeartbeats 800000 in
theorem without_any (a : Option Addr) (c n : Nat) (es : List En) (fn : FuncId) (cap : Array Value) (f : En → Bool) (w : World) (h : RdI w a es) (hn : n = es.length) (hl : es.length ≤ 1048576) (hs : SmallE es) (hf : Asks w fn cap f) :
    Calls Tryz.prog 140 #[.slice a n c, .func (.func fn) #[] cap] w fun r w' => ∃ av cv w1, r = .returned (.slice av (es.filter fun e => !f e).length cv) ∧ LI w1 w' (.slice av (es.filter fun e => !f e).length cv) (es.filter fun e => !f e) ∧ Below w.heap.size w w1 ∧ Below w1.heap.size w1 w' := by
  have hmf : ∀ (fn : Fn) (first cap : Array Value) (w : World), (Instr.makeFunc fn first cap).run Tryz.prog w = .ok (.func fn first cap) w := fun _ _ _ _ => rfl
  subst hn
  have B0 := hide (below_alloc w (.cells #[.func (.func fn) #[] cap] 95))
  have HA : Hid (Asks (w.alloc (.cells #[.func (.func fn) #[] cap] 95)) 191 #[.pointer (some ⟨w.heap.size, 0, none⟩)] (fun e => !f e)) := hide ⟨enters_of Tryz.func191 (by kernel_rfl) rfl, fun e a c w' he hec hre hb =>
    withoutLit_any w.heap.size fn cap f w hf e a c w' he hec hre (below_next B0.out hb) ((hb.cell (p := ⟨w.heap.size, 0, none⟩) (by simp)).trans (by simp))⟩
  have HC := hide (those_any a c es.length es _ _ (fun e => !f e) _ (h.below B0.out) rfl hl hs HA.out)
  clear h hf hs HA
  go_enter Tryz.func140, Tryz.ntmps140
  go_wp2_with fail
  generalize w.alloc (.cells #[.func (.func fn) #[] cap] 95) = W0 at *
  refine HC.out.mono ?_
  rintro r w1 ⟨av, cv, rfl, hL, hb1⟩
  have HL := hide hL
  have B1 := hide hb1
  clear hL hb1 HC
  go_wp2_with fail
  go_ret
  exact ⟨av, cv, W0, rfl, HL.out, B0.out, B1.out⟩
end Go.Proofs.YteegkblkfdnfiaaGreat

namespace Go.Proofs.YteegkblkfdnfiaaGreat
open Go.RowKit Go.Maps
set_option linter.unusedVariables false

def Box3 (w : World) (b : Nat) (u0 u1 u2 : Value) : Prop := (w.cell? ⟨b, 0, none⟩ = some u0 ∧ w.cell? ⟨b, 1, none⟩ = some u1 ∧ w.cell? ⟨b, 2, none⟩ = some u2) ∧ w.frozen? ⟨b, 0, none⟩ = false ∧ w.frozen? ⟨b, 1, none⟩ = false ∧ w.frozen? ⟨b, 2, none⟩ = false
theorem Box3.new (w : World) (u0 u1 u2 : Value) (t : TypeId) : Box3 (w.alloc (.cells #[u0, u1, u2] t)) w.heap.size u0 u1 u2 := ⟨⟨by simp, by simp, by simp⟩, by simp, by simp, by simp⟩
theorem Box3.lt {w : World} {b : Nat} {u0 u1 u2 : Value} (h : Box3 w b u0 u1 u2) : b < w.heap.size := World.block_lt_of_cell? w ⟨b, 0, none⟩ h.1.1
theorem Box3.kept {S : Nat → Prop} {w w' : World} {b : Nat} {u0 u1 u2 : Value} (h : Box3 w b u0 u1 u2) (hk : Kept S w w') (hn : ¬ S b) : Box3 w' b u0 u1 u2 :=
  ⟨⟨(hk.cell (p := ⟨b, 0, none⟩) h.lt hn).trans h.1.1, (hk.cell (p := ⟨b, 1, none⟩) h.lt hn).trans h.1.2.1, (hk.cell (p := ⟨b, 2, none⟩) h.lt hn).trans h.1.2.2⟩, (hk.frozen (p := ⟨b, 0, none⟩) h.lt hn).trans h.2.1, (hk.frozen (p := ⟨b, 1, none⟩) h.lt hn).trans h.2.2.1, (hk.frozen (p := ⟨b, 2, none⟩) h.lt hn).trans h.2.2.2⟩
theorem Box3.below {w w' : World} {b : Nat} {u0 u1 u2 : Value} (h : Box3 w b u0 u1 u2) (hk : Below w.heap.size w w') : Box3 w' b u0 u1 u2 := h.kept (S := fun _ => False) (Kept.of_below hk) id
theorem Kept.three (w : World) (b : Nat) (u0 u1 u2 : Value) : Kept (fun x => x = b) w (((w.setCell ⟨b, 0, none⟩ u0).setCell ⟨b, 1, none⟩ u1).setCell ⟨b, 2, none⟩ u2) :=
  Kept.setCell (S := fun x => x = b) (p := ⟨b, 2, none⟩) (Kept.two w b 0 1 u0 u1) (fun _ => rfl) u2
def ResT (q rep : Int) (es : List En) (w : World) (r : Ending) (w' : World) : Prop :=
  ∃ av cv, r = .returned (.agg #[.int .i64 q, .int .i64 rep, .slice av es.length cv]) ∧ GE w.heap.size w'.heap.size w' (.slice av es.length cv) es ∧ Below w.heap.size w w'
theorem ResT.of {q rep : Int} {es : List En} {w w3 : World} {B b n : Nat} {av : Option Addr} {cv : Nat} {u0 u1 u2 : Value} (hB : b < B) (hw : w.heap.size ≤ b) (hn : n = es.length) (hG : GE B w3.heap.size w3 (.slice av n cv) es) (hb : Below w.heap.size w w3) :
    ResT q rep es w (.returned (.agg #[.int .i64 q, .int .i64 rep, .slice av n cv])) (((w3.setCell ⟨b, 0, none⟩ u0).setCell ⟨b, 1, none⟩ u1).setCell ⟨b, 2, none⟩ u2) := by
  subst hn
  refine ⟨av, cv, rfl, ?_, ((hb.setCell hw _).setCell hw _).setCell hw _⟩
  have hs : (((w3.setCell ⟨b, 0, none⟩ u0).setCell ⟨b, 1, none⟩ u1).setCell ⟨b, 2, none⟩ u2).heap.size = w3.heap.size := by simp [World.setCell]
  rw [hs]
  exact (hG.kept (Kept.three w3 b u0 u1 u2) (fun x h1 _ h2 => by omega)).mono (by omega)
theorem ResT.bad {q rep : Int} {w w3 : World} {b : Nat} {u0 u1 u2 : Value} (hw : w.heap.size ≤ b) (hb : Below w.heap.size w w3) :
    ResT q rep [] w (.returned (.agg #[.int .i64 q, .int .i64 rep, .slice none 0 0])) (((w3.setCell ⟨b, 0, none⟩ u0).setCell ⟨b, 1, none⟩ u1).setCell ⟨b, 2, none⟩ u2) :=
  ⟨none, 0, rfl, GE.nil _ _ _, ((hb.setCell hw _).setCell hw _).setCell hw _⟩
def ResN (q : Int) (ns : List Bs) (w : World) (r : Ending) (w' : World) : Prop :=
  ∃ av cv, r = .returned (.agg #[.int .i64 q, .slice av ns.length cv]) ∧ OwnS w.heap.size w' (.slice av ns.length cv) ns ∧ Below w.heap.size w w'
theorem ResN.of {q : Int} {ns : List Bs} {w w3 : World} {B b n : Nat} {av : Option Addr} {cv : Nat} {u v : Value} (hB : b < B) (hw : w.heap.size ≤ b) (hn : n = ns.length) (hG : OwnS B w3 (.slice av n cv) ns) (hb : Below w.heap.size w w3) :
    ResN q ns w (.returned (.agg #[.int .i64 q, .slice av n cv])) ((w3.setCell ⟨b, 0, none⟩ u).setCell ⟨b, 1, none⟩ v) := by
  subst hn
  exact ⟨av, cv, rfl, (hG.kept (Kept.two w3 b 0 1 u v) (fun x h1 h2 => by have := (hG.lt x h1).1; omega)).mono (by omega), (hb.setCell hw _).setCell hw _⟩
theorem ResN.bad {q : Int} {w w3 : World} {b : Nat} {u v : Value} (hw : w.heap.size ≤ b) (hb : Below w.heap.size w w3) :
    ResN q [] w (.returned (.agg #[.int .i64 q, .slice none 0 0])) ((w3.setCell ⟨b, 0, none⟩ u).setCell ⟨b, 1, none⟩ v) :=
  ⟨none, 0, rfl, OwnS.nil _ _, (hb.setCell hw _).setCell hw _⟩
end Go.Proofs.YteegkblkfdnfiaaGreat

namespace Go.Proofs.YteegkblkfdnfiaaGreat
open Go.RowKit Go.Maps
set_option linter.unusedVariables false

theorem entFault_chunks {e : En} (h : entFault e = 0) : e.chunks.length ≤ 3 := by
  have hp := entFault_zero h
  cases h1 : formE e
  · rw [entFault_form hp h1] at h; omega
  · cases h2 : sizeE e
    · rw [entFault_size hp h1 h2] at h; omega
    · cases h3 : manyE e
      · rw [entFault_many hp h1 h2 h3] at h; omega
      · have h2' : 0 ≤ e.size ∧ e.size ≤ 24 := by simpa [sizeE] using h2
        have h3' : (e.chunks.length : Int) = (e.size + 7) / 8 := by simpa [manyE] using h3
        omega
end Go.Proofs.YteegkblkfdnfiaaGreat

namespace Go.Proofs.YteegkblkfdnfiaaGreat
open Go.RowKit Go.Maps
set_option linter.unusedVariables false
attribute [local go_sem ↓] Go.wp_at_zero Go.wp_at_succ

def lastP (p : Bs) : Bs := lastN (cutB p.tail)
def namesE (es : List En) (q : Bs) : List Bs := (kidsE es q).map fun e => lastP e.path
end Go.Proofs.YteegkblkfdnfiaaGreat

namespace Go.Proofs.YteegkblkfdnfiaaGreat
open Go.RowKit Go.Maps
set_option linter.unusedVariables false
attribute [local go_sem ↓] Go.wp_at_zero Go.wp_at_succ

theorem treP_many {es : List En} (h : 40 < es.length) : treFaultP es = 2 := by simp [treFaultP, h]
theorem treP_kind {es : List En} (h : ¬ 40 < es.length) (hk : (es.any fun e => !treeK e.kind) = true) : treFaultP es = 1 := by
  have : es.all (fun e => treeK e.kind) = false := by
    rw [List.all_eq_false]
    obtain ⟨e, he, h1⟩ := List.any_eq_true.1 hk
    exact ⟨e, he, by simpa using h1⟩
  simp [treFaultP, h, this]
theorem treP_few {es : List En} (h : ¬ 40 < es.length) (hk : (es.any fun e => !treeK e.kind) = false) : treFaultP es = layFromH (homeP es) none es := by
  have : es.all (fun e => treeK e.kind) = true := by
    rw [List.all_eq_true]
    intro e he
    have := List.any_eq_false.1 hk e he
    simpa using this
  rw [treFaultP, if_neg h, this, if_pos rfl]
set_option maxRecDepth 100000 in
set_option maxHeartbeats 800000 in
theorem implTreeFault_any (a : Option Addr) (c n : Nat) (es : List En) (w : World) (h : RdE w a es) (hn : n = es.length) (hl : es.length ≤ 1048576) (hs : SmallE es) :
    Calls Tryz.prog 93 #[.slice a n c] w fun r w' => r = .returned (.int .i64 (treFaultP es)) ∧ Below w.heap.size w w' := by
  subst hn
  by_cases hm : 40 < es.length
  · have HE := hide (treP_many hm)
    have hm2 : (40 : Int) < (es.length : Int) := by omega
    go_enter Tryz.func93, Tryz.ntmps93
    go_wp2_with fail
    go_ret
    exact ⟨ret_int HE.out.symm, Below.refl _ _⟩
  · have hm2 : ¬ (40 : Int) < (es.length : Int) := by omega
    have HK := hide (treP_kind (es := es) hm)
    have HE := hide (treP_few (es := es) hm)
    have HR := hide h
    have HS := hide hs
    clear h hs
    generalize treFaultP es = F at *
    go_enter Tryz.func93, Tryz.ntmps93
    go_wp2_with fail
    refine (treeOf_any a c es.length es _ HR.out rfl hl).mono ?_
    rintro r w1 ⟨av, cv, rfl, hL, hb1⟩
    have RI := hide (hL.rd hb1)
    have B1 := hide hb1
    clear hL hb1
    go_wp2_with fail
    refine (hasI_any av cv es.length es _ _ _ _ RI.out rfl hl HS.out (noTree_asks w1)).mono ?_
    rintro r w2 ⟨rfl, hb2⟩
    have B2 := hide (below_next B1.out hb2)
    clear hb2
    cases hk : es.any fun e => !treeK e.kind
    · have HF := hide (HE.out hk)
      clear hk
      go_wp2_with fail
      refine (entriesFault_any a c es.length es _ (HR.out.below B2.out) rfl hl HS.out).mono ?_
      rintro r w3 ⟨rfl, hb3⟩
      rw [← HF.out]
      have B3 := hide (below_next B2.out hb3)
      clear hb3
      go_wp2_with fail
      go_ret
      exact ⟨rfl, B3.out⟩
    · have HF := hide (HK.out hk)
      clear hk
      go_wp2_with fail
      go_ret
      exact ⟨ret_int HF.out.symm, B2.out⟩

end Go.Proofs.YteegkblkfdnfiaaGreat

namespace Go.Proofs.YteegkblkfdnfiaaGreat
open Go.RowKit Go.Maps
set_option linter.unusedVariables false
attribute [local go_sem ↓] Go.wp_at_zero Go.wp_at_succ

theorem parT_right {p : Bs} (h : faultP p = 0) : parT p = parentP p := by unfold parT above parentP; rw [if_pos h]
theorem parC_right {p : Bs} (h : faultP p = 0) : parC p = if parentP p = [] then 4 else 0 := by
  unfold parC
  rw [if_pos h]
  unfold above
  rw [if_pos h]
  by_cases h0 : parentP p = []
  · rw [if_pos h0, if_pos (parentP_nil.1 h0)]
  · rw [if_neg h0, if_neg (fun e => h0 (parentP_nil.2 e))]
theorem lastT_right {p : Bs} (h : faultP p = 0) : lastT p = lastP p := by unfold lastT lastP; simp [h]
def topQ (p : Bs) : Bs := if p = [47] then [] else p
theorem fault_top : faultP [47] ≠ 0 := by decide
theorem inP_right {p : Bs} {e : En} (hp : p = [47] ∨ faultP p = 0) (he : faultP e.path = 0) : inP p e = decide (parentP e.path = topQ p) := by
  unfold inP topQ
  rw [parC_right he, parT_right he]
  by_cases h0 : parentP e.path = []
  · rw [if_pos h0, if_pos rfl, h0]
    by_cases h1 : p = [47]
    · simp [h1]
    · have h2 : p ≠ [] := by
        rintro rfl
        rcases hp with hp | hp
        · exact h1 hp
        · exact faultP_nil hp
      simp [h1, Ne.symm h2]
  · rw [if_neg h0, if_neg (by decide)]
    by_cases h1 : p = [47]
    · have h3 := (parent_above he h0).1
      have h4 : parentP e.path ≠ [47] := fun e => fault_top (e ▸ h3)
      simp [h1, h0, h4]
    · simp [h1]
end Go.Proofs.YteegkblkfdnfiaaGreat

namespace Go.Proofs.YteegkblkfdnfiaaGreat
open Go.RowKit Go.Maps
set_option linter.unusedVariables false
attribute [local go_sem ↓] Go.wp_at_zero Go.wp_at_succ

theorem leftS_some {S : Nat → Bs → Option En} {i : Nat} {p : Bs} {e : En} : leftS S i p = some e ↔ seenG S p 4 = some i ∧ S i p = some e := by
  unfold leftS goneS
  by_cases h : seenG S p 4 = some i <;> simp [h]
theorem left_one {ls : List (List En)} : OneP (leftS (seeL ls)) := by
  intro i j p q e f h1 h2 hpe
  obtain ⟨s1, e1⟩ := leftS_some.1 h1
  obtain ⟨s2, e2⟩ := leftS_some.1 h2
  obtain ⟨_, _, _, p1⟩ := seeL_mem e1
  obtain ⟨_, _, _, p2⟩ := seeL_mem e2
  have hpq : p = q := by rw [← p1, ← p2, hpe]
  subst hpq
  rw [s1] at s2
  rw [Option.some.inj s2]
theorem left_all {ls : List (List En)} (hsm : SmallL ls) (e : En) : (∃ i p, i ≤ 100 ∧ p.length ≤ 1048576 ∧ leftS (seeL ls) i p = some e) ↔ ∃ k, seenL ls e.path = some k ∧ seeL ls k e.path = some e := by
  constructor
  · rintro ⟨i, p, -, -, h⟩
    obtain ⟨s1, e1⟩ := leftS_some.1 h
    obtain ⟨_, _, _, p1⟩ := seeL_mem e1
    rw [p1]
    exact ⟨i, s1, e1⟩
  · rintro ⟨k, s1, e1⟩
    obtain ⟨es, hes, he, -⟩ := seeL_mem e1
    have hk := (seen_some (show seenG (seeL ls) e.path 4 = some k from s1)).1
    exact ⟨k, e.path, by omega, ((hsm es hes).2 e he).1, leftS_some.2 ⟨s1, e1⟩⟩
theorem all_len {ls : List (List En)} (h : ∀ es ∈ ls, Right es) : ∀ n, n ≤ ls.length → (allE (ls.take n)).length ≤ 12 * n
  | 0, _ => by simp [allE]
  | n + 1, hn => by
    have ih := all_len h n (by omega)
    have hL : ls[n]? = some (ls[n]'(by omega)) := List.getElem?_eq_getElem (by omega)
    have hm := (h _ (List.mem_of_getElem? hL)).len
    generalize ls[n]'(by omega) = L at *
    have ht : ls.take (n + 1) = ls.take n ++ [L] := by rw [List.take_add_one, hL]; rfl
    rw [ht, allE_snoc]
    have := merge_len L (allE (ls.take n))
    omega
end Go.Proofs.YteegkblkfdnfiaaGreat

namespace Go.Proofs.YteegkblkfdnfiaaGreat
open Go.RowKit Go.Maps
set_option linter.unusedVariables false
attribute [local go_sem ↓] Go.wp_at_zero Go.wp_at_succ

def lovC (es : List (List En)) (p : Bs) : Int :=
  if p = [47] then layersP es else if plcC es p = 0 then (match findE (allE es) p with | some e => if e.kind = 2 then 0 else 9 | none => 0) else plcC es p
def lovL (es : List (List En)) (p : Bs) : List Bs := if lovC es p = 0 then namesE (allE es) (topQ p) else []
theorem plc_ask {es : List (List En)} {p : Bs} (h : plcC es p = 0) : askL es p = 0 := by
  unfold plcC at h
  by_cases h0 : askL es p = 0
  · exact h0
  · rw [if_neg h0] at h; exact h
theorem lookL_one {es : List (List En)} {p : Bs} (h : plcC es p = 0) : ∃ e, findE (allE es) p = some e ∧ lookL es p = [e] := by
  obtain ⟨h1, h2⟩ := look_all (plc_ask h)
  rw [h1] at h
  cases hf : findE (allE es) p with
  | none => rw [hf] at h; simp at h
  | some e => exact ⟨e, rfl, by rw [h2, hf]; rfl⟩
theorem ask_zero {es : List (List En)} {p : Bs} (h : askL es p = 0) : layersP es = 0 ∧ faultP p = 0 := by
  unfold askL at h
  by_cases h1 : layersP es = 0
  · rw [if_pos h1] at h; exact ⟨h1, h⟩
  · rw [if_neg h1] at h; exact absurd h h1
theorem lov_tree {es : List (List En)} {p : Bs} (h : lovC es p = 0) : layersP es = 0 ∧ (p = [47] ∨ faultP p = 0) := by
  unfold lovC at h
  by_cases h0 : p = [47]
  · rw [if_pos h0] at h; exact ⟨h, .inl h0⟩
  · rw [if_neg h0] at h
    by_cases h1 : plcC es p = 0
    · have := ask_zero (plc_ask h1)
      exact ⟨this.1, .inr this.2⟩
    · rw [if_neg h1] at h; exact absurd h h1
theorem inP_asT (p : Bs) (e : En) : inP p (asT e) = inP p e := by unfold inP; rw [asT_path]
theorem rs_kids {rs T : List En} {p : Bs} (h : rs.map asT = T) (hT : FitT T) (hp : p = [47] ∨ faultP p = 0) : ((rs.filter (inP p)).map fun e => lastP e.path) = namesE T (topQ p) := by
  have h1 : T.filter (inP p) = kidsE T (topQ p) := List.filter_congr fun x hx => inP_right hp (hT.fit.path hx)
  have h2 : T.filter (inP p) = (rs.filter (inP p)).map asT := by
    rw [← h, List.filter_map]
    congr 1
    exact List.filter_congr fun x _ => inP_asT p x
  unfold namesE
  rw [← h1, h2, List.map_map]
  exact List.map_congr_left fun e _ => by simp [asT_path]

set_option maxRecDepth 100000 in
set_option maxHeartbeats 1600000 in
theorem listOverFault_any (a : Option Addr) (c n : Nat) (es : List (List En)) (p : Bs) (w : World) (h : RdL w a es) (hn : n = es.length) (hl : es.length ≤ 1048576) (hs : SmallL es) (hp : p.length ≤ 1048576) :
    Calls Tryz.prog 157 #[.slice a n c, .string (str p)] w fun r w' => r = .returned (.int .i64 (lovC es p)) ∧ Below w.heap.size w w' := by
  subst hn
  have HR := hide h
  have HS := hide hs
  clear h hs
  have hs1 : ((str p).toList == [47]) = decide (p = [47]) := by rw [str_toList]; by_cases h47 : p = [47] <;> simp [h47]
  by_cases h0 : p = [47]
  · rw [decide_eq_true h0] at hs1
    have HC := hide (show lovC es p = layersP es from by rw [lovC, if_pos h0])
    clear h0
    go_enter Tryz.func157, Tryz.ntmps157
    go_wp2_with fail
    refine (implLayersFault_any a c es.length es w HR.out rfl hl HS.out).mono ?_
    rintro r w1 ⟨rfl, hb1⟩
    rw [← HC.out]
    have B1 := hide hb1
    clear hb1
    go_wp2_with fail
    go_ret
    exact ⟨rfl, B1.out⟩
  · rw [decide_eq_false h0] at hs1
    have HC := hide (show lovC es p = if plcC es p = 0 then (match findE (allE es) p with | some e => if e.kind = 2 then 0 else 9 | none => 0) else plcC es p from by rw [lovC, if_neg h0])
    clear h0
    go_enter Tryz.func157, Tryz.ntmps157
    go_wp2_with fail
    refine (implLookOver_any a c es.length es p w HR.out rfl hl HS.out hp).mono ?_
    rintro r w1 ⟨av, cv, rfl, hG, hb1⟩
    by_cases hz : plcC es p = 0
    · obtain ⟨e, hfe, hsl⟩ := lookL_one hz
      have hll : (lookL es p).length = 1 := by rw [hsl]; rfl
      rw [hll, hsl] at hG
      rw [hz, hll]
      have HC2 := hide (show lovC es p = if e.kind = 2 then 0 else 9 from by rw [HC.out, if_pos hz, hfe])
      obtain ⟨g, rfl, -⟩ := hG.addr rfl (.inl (by decide))
      have B0 := hide (below_alloc w1 (.cells #[.int .i64 0, .slice (some ⟨g, 0, none⟩) 1 cv] 54))
      have B1 := hide (below_next hb1 B0.out)
      obtain ⟨b, off, e', x, cc, hbb, hb, he, c0, c1, c2, c3, hr⟩ := hG.rd.at (k := 0) (by simp)
      simp only [Option.some.injEq, Addr.mk.injEq, and_true] at hbb
      obtain ⟨rfl, rfl⟩ := hbb
      simp only [List.getElem?_cons_zero, Option.some.injEq] at he
      subst he
      have c1' := (B0.out.cell (p := ⟨g, 1, none⟩) hb).trans (show w1.cell? ⟨g, 1, none⟩ = some (.int .i64 e.kind) by simpa using c1)
      clear hr c0 c1 c2 c3 hz hfe hsl hll hG hb1 HC
      by_cases hk : e.kind = 2
      · have hb2 : (e.kind != 2) = false := by simp [hk]
        have HZ := hide (show lovC es p = 0 from by rw [HC2.out, if_pos hk])
        clear hk HC2
        go_wp2_with fail
        go_ret
        exact ⟨ret_int HZ.out.symm, B1.out⟩
      · have hb2 : (e.kind != 2) = true := by simp [hk]
        have HZ := hide (show lovC es p = 9 from by rw [HC2.out, if_neg hk])
        clear hk HC2
        go_wp2_with fail
        go_ret
        exact ⟨ret_int HZ.out.symm, B1.out⟩
    · have HZ := hide (show lovC es p = plcC es p from by rw [HC.out, if_neg hz])
      have hz2 : (plcC es p != 0) = true := by simp; exact hz
      generalize plcC es p = F at *
      generalize lookL es p = L at *
      have B1 := hide (below_next hb1 (below_alloc w1 (.cells #[.int .i64 F, .slice av L.length cv] 54)))
      clear hz HC hG hb1
      go_wp2_with fail
      go_ret
      exact ⟨ret_int HZ.out.symm, B1.out⟩

set_option maxRecDepth 100000 in
set_option maxHeartbeats 1600000 in
theorem implListOver_any (a : Option Addr) (c n : Nat) (es : List (List En)) (p : Bs) (w : World) (h : RdL w a es) (hn : n = es.length) (hl : es.length ≤ 1048576) (hs : SmallL es) (hp : p.length ≤ 1048576) :
    Calls Tryz.prog 160 #[.slice a n c, .string (str p)] w (ResN (lovC es p) (lovL es p) w) := by
  subst hn
  obtain ⟨i1, ki, kz0, kz1, kz2⟩ := info_parts infoS
  have X0 := hide (Box.new w (.int .i64 0) (.slice none 0 0) 180)
  have B0 := hide (below_alloc w (.cells #[.int .i64 0, .slice none 0 0] 180))
  have HR := hide h
  have HS := hide hs
  clear h hs
  go_enter Tryz.func160, Tryz.ntmps160
  go_wp2_with fail
  refine (listOverFault_any a c es.length es p _ (HR.out.below B0.out) rfl hl HS.out hp).mono ?_
  rintro r w1 ⟨rfl, hb1⟩
  have B1 := hide (below_next B0.out hb1)
  have X1 := hide (X0.out.below hb1)
  clear hb1 X0 B0
  by_cases hz : lovC es p = 0
  · obtain ⟨hz0, hpp⟩ := lov_tree hz
    obtain ⟨h4, hRs⟩ := layersP_zero.1 hz0
    have HCC := hide (show lovC es p = 0 ∧ lovL es p = namesE (allE es) (topQ p) from ⟨hz, by rw [lovL, if_pos hz]⟩)
    have HRr := hide hRs
    have HRs := hide (rights_sight hRs HS.out)
    have HPP := hide hpp
    rw [hz]
    clear hz hz0 hRs hpp
    have hb0 : w.heap.size < w1.heap.size := X1.out.1.lt
    go_wp2_with fail
    refine (sightOf_any a c es.length es w1 (HR.out.below B1.out) rfl h4 HRs.out).mono ?_
    rintro r w2 ⟨b, N, rfl, hbb, hN, hM, hb2⟩
    have HM := hide hM
    have BB2 := hide hb2
    clear hM hb2
    go_wp2_with fail
    refine (seen_any b N (seeL es) w1 w2 HM.out).mono ?_
    rintro r w3 ⟨b3, rfl, hb3b, hM3, hb3⟩
    have HM3 := hide hM3
    have BB3 := hide (below_next BB2.out hb3)
    clear hM3 hb3 HM BB2
    go_wp2_with fail
    refine (rising_any b3 N (leftS (seeL es)) w1 w3 HM3.out (by omega) left_one BB3.out).mono ?_
    rintro r w4 ⟨av, cv, rs, rfl, hri, hmem, hRI, hb4⟩
    have BB4 := hide (below_next BB3.out hb4)
    have hall := all_rise HRr.out h4 hri (fun e => (hmem e).trans (left_all HS.out e))
    have HKN := hide (rs_kids hall (all_fit (rights_fit HRr.out)) HPP.out)
    have HKM := hide (show SmallE rs ∧ ∀ e ∈ rs, faultP e.path = 0 from ⟨fun e he => by
      obtain ⟨k, s1, e1⟩ := (left_all HS.out e).1 ((hmem e).1 he)
      obtain ⟨es', hes, hee, -⟩ := seeL_mem e1
      exact (HS.out es' hes).2 e hee, fun e he => by
      obtain ⟨k, s1, e1⟩ := (left_all HS.out e).1 ((hmem e).1 he)
      obtain ⟨es', hes, hee, -⟩ := seeL_mem e1
      exact (rights_fit HRr.out es' hes).path hee⟩)
    have hrl : rs.length ≤ 48 := by
      have h1 := all_len HRr.out es.length (Nat.le_refl _)
      rw [List.take_length, ← hall, List.length_map] at h1
      omega
    have RI := hide hRI
    clear hri hmem hRI hb4 HM3 BB3 hall
    go_wp2_with fail
    refine (isIn_any p _).mono ?_
    rintro r w5 ⟨rfl, hb5, hA⟩
    have HA := hide hA
    have RI3 := hide (RI.out.below hb5)
    have BB5 := hide (below_next BB4.out hb5)
    clear hA hb5 RI BB4
    go_wp2_with fail
    refine (those_any av cv rs.length rs _ _ _ _ RI3.out rfl (by omega) HKM.out.1 HA.out).mono ?_
    obtain ⟨ks, hks⟩ : ∃ ks, ks = rs.filter (inP p) := ⟨_, rfl⟩
    rw [← hks]
    have HN := hide (show namesE (allE es) (topQ p) = ks.map fun e => lastP e.path from by rw [hks]; exact HKN.out.symm)
    have HKS := hide (show ∀ e ∈ ks, faultP e.path = 0 ∧ e.path.length ≤ 1048576 from fun e he => by
      rw [hks] at he
      have := (List.mem_filter.1 he).1
      exact ⟨HKM.out.2 e this, (HKM.out.1 e this).1⟩)
    have hkl : ks.length ≤ 48 := by rw [hks]; have := List.length_filter_le (inP p) rs; omega
    clear hks HKN HKM
    rintro r w4 ⟨av4, cv4, rfl, hL4, hb4⟩
    have RK := hide (hL4.rd hb4)
    have BB6 := hide (below_next BB5.out hb4)
    have hs4 := BB6.out.size
    clear hL4 hb4 BB5 RI3 HA
    go_wp2_with fail
    go_loopw [6, 24] (fun v i wr => ∃ k : Nat, k ≤ ks.length ∧ i = .int .i64 k ∧ Hid (OwnS w4.heap.size wr v ((ks.take k).map fun e => lastP e.path)) ∧ Hid (Below w4.heap.size w4 wr)) (fun _ i _ => ks.length - (intOf i).toNat)
    case atStart => exact ⟨0, Nat.zero_le _, rfl, hide (OwnS.nil _ _), hide (Below.refl _ _)⟩
    case round =>
      obtain ⟨k, hk, rfl, HO, HW⟩ := hrel
      have hsz := HW.out.size
      obtain ⟨lv, lc, hv⟩ := HO.out.shape
      have hln : ((ks.take k).map fun e => lastP e.path).length = k := by rw [List.length_map, List.length_take]; omega
      rw [hln] at hv
      subst hv
      by_cases hlt : k < ks.length
      · obtain ⟨b, off, e, x, cc, rfl, hb, he, c0, c1, c2, c3, hr⟩ := (RK.out.below HW.out).at hlt
        obtain ⟨hpf, hpl⟩ := HKS.out e (List.mem_of_getElem? he)
        have HX := hide he
        have HLA := hide (show lastT (str e.path).data.toList = lastP e.path from by rw [str_data]; exact lastT_right hpf)
        clear he hr hpf
        have BA := hide (below_alloc wr (.cells #[.int .i64 e.size, .slice x e.chunks.length cc, .string (str e.path), .int .i64 e.kind] 93))
        go_wp2_with fail
        refine (implLastOf_any (str e.path) _ (by rw [str_size]; omega)).mono ?_
        rintro r w5 ⟨rfl, hb5⟩
        rw [HLA.out]
        generalize faultP (str e.path).data.toList = FP
        have hfd : ∀ (w : World), (Instr.field 203 (.agg #[.int .i64 FP, .string (str (lastP e.path))]) 1).run Tryz.prog w = .ok (.string (str (lastP e.path))) w := fun _ => by kernel_rfl
        have HW5 := hide (below_next HW.out (below_next BA.out hb5))
        have O5 : Hid (w5.ownsRow w4.heap.size 9 1 (.slice lv k lc) k (((ks.take k).map fun e => lastP e.path).map vS)) := by have := HO.out.below (below_next BA.out hb5); unfold OwnS at this; rw [hln] at this; exact this
        have hsz5 := HW5.out.size
        have HLn := hide hln
        have hm1 : k + 1 ≤ maxLen := by unfold maxLen; omega
        have hm2 : (k + 1) * 16 ≤ 140737488355328 := by omega
        clear hb5 hln HO HW BA c0 c1 c2 c3
        go_wp2_with (at_builtin; refine wpList_append_one rfl (.tmp 28) (.tmp 33) 51 rfl w4.heap.size 9 i1 (.string ⟨#[]⟩) 1 16 Tryz.underlying51 ki kz0 kz1 kz2 rfl (by decide) _ _ _ rfl O5.out rfl rfl (by intro u hu; simp at hu; subst hu; rfl) hm1 hm2 hsz5 ?_; intro v' w6 hown6 hkept; have O6 := hide (show OwnS w4.heap.size w6 v' (((ks.take k).map fun e => lastP e.path) ++ [lastP e.path]) from OwnS.snoc (by rw [HLn.out]; exact hown6) rfl); have K6 := hide hkept; clear hown6 hkept)
        go_roundw
        case rel =>
          refine ⟨k + 1, by omega, by go_num, hide ?_, hide ?_⟩
          · rw [take_snoc_at HX.out, List.map_append]; exact O6.out
          · exact Kept.below_own HW5.out hsz5 O5.out K6.out
        case measure => simp [intOf]; omega
      · have hke : k = ks.length := by omega
        have HO2 : Hid (OwnS w4.heap.size wr (.slice lv k lc) (namesE (allE es) (topQ p))) := by have := HO.out; rw [List.take_of_length_le (by omega)] at this; rw [HN.out]; exact this
        have HLn := hide (show k = (namesE (allE es) (topQ p)).length from by rw [HN.out, List.length_map]; exact hke)
        have BB5 := hide (below_next BB6.out HW.out)
        obtain ⟨⟨t0, t1⟩, t2, t3⟩ := X1.out.below BB5.out
        have B5 := hide (below_next B1.out BB5.out)
        clear hke hln
        go_wp2_with fail
        exact bodyPost_ret (v := .agg #[.int .i64 0, .slice lv k lc]) (by simp [results, Tryz.results160, go_sem, t0, t1]) rfl (by rw [HCC.out.1, HCC.out.2]; exact ResN.of (by omega) (Nat.le_refl _) HLn.out HO2.out B5.out)
  · have HCC := hide (show lovL es p = [] from by rw [lovL, if_neg hz])
    generalize lovC es p = F at *
    have hz2 : (F != 0) = true := by simp; exact hz
    clear hz
    obtain ⟨⟨t0, t1⟩, t2, t3⟩ := X1.out
    go_wp2_with fail
    exact bodyPost_ret (v := .agg #[.int .i64 F, .slice none 0 0]) (by simp [results, Tryz.results160, go_sem, t0, t1]) rfl (by rw [HCC.out]; exact ResN.bad (Nat.le_refl _) B1.out)

end Go.Proofs.YteegkblkfdnfiaaGreat

namespace Go.Proofs.YteegkblkfdnfiaaGreat
open Go.ChangeShapes Go.WideShapes Go.ChangeAt Go.RowKit
set_option linter.unusedVariables false

def zEn : En := ⟨[], 0, 0, []⟩
theorem rowR_set4 : ∀ (rs : List Rw) (j : Nat) (r : Rw), j < rs.length →
    ((((rowR rs).set (j * 4) (.string (str r.e.path))).set (j * 4 + 1) (.int .i64 r.e.kind)).set (j * 4 + 2) (.int .i64 r.e.size)).set (j * 4 + 3) (.slice r.a r.e.chunks.length r.c) = rowR (rs.set j r)
  | [], j, r, h => by simp at h
  | x :: rs, 0, r, h => by simp [rowR, cellsR]
  | x :: rs, j + 1, r, h => by
    have ih := rowR_set4 rs j r (by simpa using h)
    have e1 : rowR (x :: rs) = cellsR x ++ rowR rs := rfl
    have e2 : rowR ((x :: rs).set (j + 1) r) = cellsR x ++ rowR (rs.set j r) := rfl
    have hx : (cellsR x).length = 4 := rfl
    rw [e1, e2, ← ih, List.set_append_right _ _ (by omega), List.set_append_right _ _ (by omega), List.set_append_right _ _ (by omega), List.set_append_right _ _ (by omega), hx]
    rw [show (j + 1) * 4 - 4 = j * 4 by omega, show (j + 1) * 4 + 1 - 4 = j * 4 + 1 by omega, show (j + 1) * 4 + 2 - 4 = j * 4 + 2 by omega, show (j + 1) * 4 + 3 - 4 = j * 4 + 3 by omega]

end Go.Proofs.YteegkblkfdnfiaaGreat

namespace Go.Proofs.YteegkblkfdnfiaaGreat
open Go.RowKit Go.Maps
set_option linter.unusedVariables false
attribute [local go_sem ↓] Go.wp_at_zero Go.wp_at_succ

theorem path_short {p : Bs} (h : faultP p = 0) : p.length ≤ 15 := by
  obtain ⟨ns, hN, hpe, _, _⟩ := faultP_zero h
  have := join_len'' ns 4 hN.2.2.1
  have := hN.2.2.2
  rw [hpe]
  omega
theorem right_small {es : List En} (h : Right es) : SmallE es := fun e he => by
  have h1 := path_short (entFault_zero (h.ent e he))
  have h2 := entFault_chunks (h.ent e he)
  omega
end Go.Proofs.YteegkblkfdnfiaaGreat

namespace Go.Proofs.YteegkblkfdnfiaaGreat
open Go.RowKit Go.Maps
set_option linter.unusedVariables false
attribute [local go_sem ↓] Go.wp_at_zero Go.wp_at_succ

structure Ly where
  es : List En
  a : Option Addr
  c : Nat
def lyV (x : Ly) : Value := .slice x.a x.es.length x.c
theorem infoLs : (Tryz.prog.info? 35).map (fun i => (i.zero, i.size, i.bytes)) = some (some (.slice none 0 0), 1, 24) := by kernel_rfl
end Go.Proofs.YteegkblkfdnfiaaGreat

namespace Go.Proofs.YteegkblkfdnfiaaGreat
open Go.RowKit Go.Maps
set_option linter.unusedVariables false
attribute [local go_sem ↓] Go.wp_at_zero Go.wp_at_succ

theorem kept_none {w w' : World} (h : w.grownBy w' none) : Below w.heap.size w w' := ⟨h.os, h.tape, h.output, h.size, fun k hk => h.block k hk (by simp)⟩
theorem wpList_copy_onto {P : Program} {w : World} {ops : Array Oper} {rest : List Oper} {o : Oper} {a : Act} {Q : Exit → Act → World → Prop} (hgd : o.guard = none) (d s : Operand) (t : TypeId)
    (ho : o.op = .call { callee := .builtin .copy, args := #[d, s], argTypes := #[t, t] })
    (base : Nat) (e : TypeId) (i : TypeInfo) (size : Nat) (ht : P.underlying t = some (.slice e)) (hi : P.info? e = some i) (hsize : i.size = size) (hpos : 0 < size)
    (g n c : Nat) (xs : List Value) (hd : a.eval d = .slice (some ⟨g, 0, none⟩) n c) (hown : w.ownsRow base e size (.slice (some ⟨g, 0, none⟩) n c) n xs)
    (sp : Option Addr) (m sc : Nat) (cs : List Value) (hs : a.eval s = .slice sp m sc) (hm : m ≤ n) (hcl : cs.length = m * size)
    (hsrc : cs ≠ [] → ∃ ad, sp = some ad ∧ ∀ j u, cs[j]? = some u → w.cell? (ad.add j) = some u) (h1 : ∀ u ∈ cs, u.oneCell' = true)
    (h : ∀ w', w'.ownsRow base e size (.slice (some ⟨g, 0, none⟩) n c) n (cs ++ xs.drop (m * size)) → Kept (fun b => b = g) w w' → wpList P ops Q rest (a.put o.dst (goInt m)) w') :
    wpList P ops Q (o :: rest) a w := by
  have hmin : Nat.min m n = m := Nat.min_eq_left hm
  refine wpList_plain hgd fun K hK => ?_
  by_cases hz : cs = []
  · subst hz
    have hm0 : m = 0 := by
      simp only [List.length_nil] at hcl
      rcases Nat.mul_eq_zero.1 hcl.symm with h0 | h0
      · exact h0
      · omega
    subst hm0
    have hl : ∀ (x : Addr), (loadCells x 0).run P w = .ok #[] w := fun x => by simpa using run_loadCells_list (P := P) w x [] (by simp)
    have hrun : (Builtin.copy_ #[t, t] o.type #[.slice (some ⟨g, 0, none⟩) n c, .slice sp 0 sc]).run P w = .ok (goInt 0) w := by
      cases sp <;> simp [Builtin.copy_, run_underlying ht, Builtin.lenOf, Builtin.firstCells, sizeOf, typeInfo, hi, storeCells, hl]
    unfold Oper.wp
    simp [execOp, ho, resolve, invoke, builtin, hd, hs, hrun, Result.andThen]
    exact hK _ _ (h w (by simpa using hown) (Kept.refl _ _))
  · obtain ⟨ad, rfl, hsr2⟩ := hsrc hz
    rcases hown.2 with ⟨hv, _⟩ | ⟨g', cap, cur, hv, hb, hh, hnc, hcm, hcs, htk⟩
    · cases hv
    · cases hv
      have hfit : cs.length ≤ cur.size := by
        rw [hcl, hcs]
        exact Nat.mul_le_mul_right _ (Nat.le_trans hm hnc)
      have hl := run_loadCells_list (P := P) w ad cs hsr2
      have hst := run_storeCells_at P g 0 e cs 0 cur w hh (by simpa using hfit) h1
      have hrun : (Builtin.copy_ #[t, t] o.type #[.slice (some ⟨g, 0, none⟩) n c, .slice (some ad) m sc]).run P w = .ok (goInt m) (w.setRow g (cs ++ cur.toList.drop cs.length).toArray) := by
        rw [hcl] at hl
        simp [Builtin.copy_, run_underlying ht, Builtin.lenOf, Builtin.firstCells, sizeOf, typeInfo, hi, hsize, hmin, hl, hst]
      unfold Oper.wp
      simp [execOp, ho, resolve, invoke, builtin, hd, hs, hrun, Result.andThen]
      refine hK _ _ (h _ ⟨?_, .inr ⟨g, c, (cs ++ cur.toList.drop cs.length).toArray, rfl, hb, setRow_heap w g cur _ e (0, 0) hh, hnc, hcm, ?_, ?_⟩⟩ ⟨rfl, rfl, rfl, by simp [World.setRow], fun k hk hn => setRow_other w g k _ hn⟩)
      · rw [List.length_append, List.length_drop, hown.1, hcl, ← Nat.sub_mul, ← Nat.add_mul]
        congr 1; omega
      · simp only [List.size_toArray, List.length_append, List.length_drop, Array.length_toList]
        omega
      · have hle : cs.length ≤ n * size := by rw [hcl]; exact Nat.mul_le_mul_right _ hm
        rw [List.take_append, List.take_of_length_le hle, ← htk, List.drop_take, hcl]
theorem reads_cells {k : IntKind} {w : World} {a : Option Addr} {zs : List Int} (h : Reads k w a zs) : ∀ W : World, Below w.heap.size w W → zs.map (Value.int k) ≠ [] → ∃ ad, a = some ad ∧ ∀ (j : Nat) u, (zs.map (Value.int k))[j]? = some u → W.cell? (ad.add j) = some u := fun W hW hz => by
  obtain ⟨b, off, e, hb, hc⟩ := (h.below hW) (by intro e; simp [e] at hz)
  exact ⟨⟨b, off, none⟩, e, reads_news hc⟩
theorem made_drop (z : Array Value) (n : Nat) : (madeCells z n).toList.drop n = [] := List.drop_eq_nil_of_le (by rw [Array.length_toList, size_madeCells]; exact Nat.le_refl _)
set_option maxRecDepth 100000 in
set_option maxHeartbeats 1600000 in
theorem copiedInts_any (a : Option Addr) (c n : Nat) (zs : List Int) (w : World) (h : Reads .i64 w a zs) (hn : n = zs.length) (hl : zs.length ≤ 1048576) :
    Calls Tryz.prog 91 #[.slice a n c] w fun r w' => ∃ av cv, r = .returned (.slice av zs.length cv) ∧ w'.ownsRow w.heap.size 2 1 (.slice av zs.length cv) zs.length (zs.map (Value.int .i64)) ∧ Below w.heap.size w w' := by
  subst hn
  obtain ⟨i0, hi0, hz0, hz1, hz2⟩ := info_parts Tryz.infoI64
  by_cases hz : zs = []
  · subst hz
    go_enter Tryz.func91, Tryz.ntmps91
    go_wp2_with fail
    go_ret
    exact ⟨none, 0, rfl, World.ownsRow_nil _ _ _ _, Below.refl _ _⟩
  · have hp : 0 < zs.length := List.length_pos_iff.2 hz
    have HC := hide (reads_cells h)
    have HV1 := hide (ints_one .i64 zs)
    have hby : i0.bytes * zs.length ≤ 281474976710656 := by rw [hz2]; omega
    have hml : zs.length ≤ maxLen := by unfold maxLen; omega
    have HVN := hide (show (zs.map (Value.int .i64)).length = zs.length * 1 by simp)
    have HD := hide (show (madeCells (Value.int .i64 0).cells (zs.length * 1)).toList.drop (zs.length * 1) = [] from made_drop _ _)
    clear h hz
    generalize hvs : zs.map (Value.int .i64) = vs at *
    clear hvs
    generalize zs.length = N at *
    have hne : ((N : Int) == 0) = false := by simp; omega
    go_enter Tryz.func91, Tryz.ntmps91
    go_wp2_with (first
      | (at_make; refine wpList_make_full _ rfl (.tmp 8) (.tmp 8) 48 rfl w.heap.size 2 i0 (.int .i64 0) 1 Tryz.underlying48 hi0 hz0 hz1 .i64 .i64 _ _ N rfl rfl (by simp) (by simp) hby hml (Nat.le_refl _) ?_; intro w1 ho1 hg1; have O1 := hide ho1; have B1 := hide (kept_none hg1); clear ho1 hg1)
      | (refine wpList_copy_onto rfl (.tmp 10) (.tmp 11) 48 rfl w.heap.size 2 i0 1 Tryz.underlying48 hi0 hz1 (by decide) w.heap.size N N _ rfl O1.out a N c vs rfl (Nat.le_refl _) HVN.out (HC.out w1 B1.out) HV1.out ?_; rw [HD.out, List.append_nil]; intro w2 ho2 hk2; have O2 := hide ho2; have B2 := hide (B1.out.trans (hk2.below (B := w.heap.size) B1.out.size (fun b hb e => by omega))); clear ho2 hk2))
    go_ret
    exact ⟨_, _, rfl, O2.out, B2.out⟩
end Go.Proofs.YteegkblkfdnfiaaGreat

namespace Go.Proofs.YteegkblkfdnfiaaGreat
open Go.RowKit Go.Maps
set_option linter.unusedVariables false
attribute [local go_sem ↓] Go.wp_at_zero Go.wp_at_succ

theorem RdL.cells {w : World} {a : Option Addr} {ls : List (List En)} (h : RdL w a ls) : ∃ vs : List Value, vs.length = ls.length ∧ (∀ W : World, Below w.heap.size w W → vs ≠ [] → ∃ ad, a = some ad ∧ ∀ j u, vs[j]? = some u → W.cell? (ad.add j) = some u) ∧ (∀ u ∈ vs, u.oneCell' = true) ∧ ∀ (i : Nat) (es : List En), ls[i]? = some es → ∃ x c, vs[i]? = some (Value.slice x es.length c) ∧ RdE w x es := by
  by_cases hz : ls = []
  · subst hz
    exact ⟨[], rfl, fun _ _ h => absurd rfl h, fun u hu => by simp at hu, fun i es he => by simp at he⟩
  · obtain ⟨b, off, A, C, rfl, hb, hc⟩ := h hz
    refine ⟨(List.range ls.length).map fun i => Value.slice (A i) (ls.getD i []).length (C i), by simp, fun W hW _ => ⟨⟨b, off, none⟩, rfl, fun j u hj => ?_⟩, fun u hu => ?_, fun i es he => ?_⟩
    · have hlt : j < ls.length := by have := (List.getElem?_eq_some_iff.1 hj).1; simpa using this
      have he : ls[j]? = some ls[j] := List.getElem?_eq_getElem hlt
      obtain ⟨c0, -⟩ := hc j _ he
      rw [List.getElem?_map, List.getElem?_range hlt] at hj
      simp only [Option.map_some, Option.some.injEq] at hj
      rw [add_addr, hW.cell (p := ⟨b, off + j, none⟩) hb, c0, ← hj]
      simp [List.getD_eq_getElem?_getD, he]
    · obtain ⟨i, -, rfl⟩ := List.mem_map.1 hu
      rfl
    · have hlt : i < ls.length := (List.getElem?_eq_some_iff.1 he).1
      obtain ⟨-, r⟩ := hc i es he
      exact ⟨A i, C i, by rw [List.getElem?_map, List.getElem?_range hlt]; simp [List.getD_eq_getElem?_getD, he], r⟩
theorem made_last (n : Nat) : (madeCells (Value.slice none 0 0).cells ((n + 1) * 1)).toList.drop (n * 1) = [Value.slice none 0 0] := by
  unfold madeCells
  simp only [Nat.mul_one, Array.toList_map, Array.toList_range, List.range_succ, List.map_append]
  rw [List.drop_append_of_le_length (by simp), List.drop_of_length_le (by simp)]
  simp [Value.cells, Nat.mod_one]
theorem rdL_made {w W : World} {ls : List (List En)} {U : List En} {u : Option Addr} {uc : Nat} {vs : List Value} {x : Value} (hO : W.ownsRow w.heap.size 35 1 (.slice (some ⟨w.heap.size, 0, none⟩) (ls.length + 1) (ls.length + 1)) (ls.length + 1) (vs ++ [x])) (hB : Below w.heap.size w W) (hv : vs.length = ls.length)
    (hr : ∀ (i : Nat) (es : List En), ls[i]? = some es → ∃ x c, vs[i]? = some (Value.slice x es.length c) ∧ RdE w x es) (hU : RdE w u U) : RdL (W.setCell ⟨w.heap.size, ls.length, none⟩ (.slice u U.length uc)) (some ⟨w.heap.size, 0, none⟩) (ls ++ [U]) := by
  have hlt := (hO.lt w.heap.size rfl).2
  have hK : Kept (fun b => b = w.heap.size) W (W.setCell ⟨w.heap.size, ls.length, none⟩ (.slice u U.length uc)) := Kept.setCell (S := fun b => b = w.heap.size) (p := ⟨w.heap.size, ls.length, none⟩) (Kept.refl _ _) (fun _ => rfl) _
  have hBB : Below w.heap.size w (W.setCell ⟨w.heap.size, ls.length, none⟩ (.slice u U.length uc)) := hB.setCell (p := ⟨w.heap.size, ls.length, none⟩) (Nat.le_refl _) _
  have hc : ∀ j, j < ls.length + 1 → W.cell? ⟨w.heap.size, j, none⟩ = (vs ++ [x])[j]? := fun j hj => hO.cellAt j (by omega)
  have hat : ∀ i es, (ls ++ [U])[i]? = some es → ∃ x c, (W.setCell ⟨w.heap.size, ls.length, none⟩ (.slice u U.length uc)).cell? ⟨w.heap.size, 0 + i, none⟩ = some (.slice x es.length c) ∧ RdE (W.setCell ⟨w.heap.size, ls.length, none⟩ (.slice u U.length uc)) x es := fun i es he => by
    rw [Nat.zero_add]
    by_cases hi : i < ls.length
    · rw [List.getElem?_append_left hi] at he
      obtain ⟨y, c, hy, hre⟩ := hr i es he
      refine ⟨y, c, ?_, hre.below hBB⟩
      rw [cell_set_other (fun e => absurd (congrArg Addr.off e) (by show ¬ ls.length = i; omega)), hc i (by omega), List.getElem?_append_left (by omega)]
      exact hy
    · have hi2 : i = ls.length := by
        have := (List.getElem?_eq_some_iff.1 he).1
        simp at this; omega
      subst hi2
      simp at he
      subst he
      refine ⟨u, uc, ?_, hU.below hBB⟩
      exact cell_set_same (u := x) (by rw [hc _ (by omega), List.getElem?_append_right (by omega)]; simp [hv])
  intro _
  refine ⟨w.heap.size, 0, fun i => ((ls ++ [U])[i]?.bind fun es => if h : (ls ++ [U])[i]? = some es then some (Classical.choose (hat i es h)) else none).getD none, fun i => ((ls ++ [U])[i]?.bind fun es => if h : (ls ++ [U])[i]? = some es then some (Classical.choose (Classical.choose_spec (hat i es h))) else none).getD 0, rfl, ?_, fun i es he => ?_⟩
  · simp [World.setCell]; exact hlt
  · have h1 := Classical.choose_spec (Classical.choose_spec (hat i es he))
    simp only [he, Option.bind_some, dif_pos]
    exact h1
theorem row_end {w : World} {B g n c : Nat} {t : TypeId} {vs : List Value} {x : Value} (h : w.ownsRow B t 1 (.slice (some ⟨g, 0, none⟩) (n + 1) c) (n + 1) (vs ++ [x])) (hv : vs.length = n) : w.cell? ⟨g, n, none⟩ = some x := by
  rw [h.cellAt n (by omega), List.getElem?_append_right (by omega)]; simp [hv]
set_option maxRecDepth 100000 in
set_option maxHeartbeats 3200000 in
theorem withUpper_any (a : Option Addr) (c n : Nat) (ls : List (List En)) (u : Option Addr) (uc m : Nat) (U : List En) (w : World) (h : RdL w a ls) (hn : n = ls.length) (hl : ls.length ≤ 1000000) (hU : RdE w u U) (hm : m = U.length) :
    Calls Tryz.prog 112 #[.slice a n c, .slice u m uc] w fun r w' => ∃ av cv, r = .returned (.slice av (ls ++ [U]).length cv) ∧ RdL w' av (ls ++ [U]) ∧ Below w.heap.size w w' := by
  subst hn
  subst hm
  obtain ⟨i1, ki, kz0, kz1, kz2⟩ := info_parts infoLs
  obtain ⟨vs, hvl, hvc, hv1, hvr⟩ := RdL.cells h
  have HVC := hide hvc
  have HV1 := hide hv1
  have HVR := hide hvr
  have HU := hide hU
  have hby : i1.bytes * (ls.length + 1) ≤ 281474976710656 := by rw [kz2]; omega
  have hml : ls.length + 1 ≤ maxLen := by unfold maxLen; omega
  have hk0 : (0 : Int) ≤ (ls.length : Int) := by omega
  have hvn : vs.length = ls.length * 1 := by omega
  have hle : ls.length ≤ ls.length + 1 := by omega
  have HLen := hide (show (ls ++ [U]).length = ls.length + 1 by simp)
  have HVL := hide hvl
  clear h hvc hv1 hvr hU hvl
  have HVN := hide hvn
  clear hvn
  have HZC : Hid ((madeCells (Value.slice none 0 0).cells ((ls.length + 1) * 1)).toList.drop (ls.length * 1) = [Value.slice none 0 0]) := hide (made_last ls.length)
  have HRd : Hid (∀ (W : World) (x : Value), W.ownsRow w.heap.size 35 1 (.slice (some ⟨w.heap.size, 0, none⟩) (ls.length + 1) (ls.length + 1)) (ls.length + 1) (vs ++ [x]) → Below w.heap.size w W → RdL (W.setCell ⟨w.heap.size, ls.length, none⟩ (.slice u U.length uc)) (some ⟨w.heap.size, 0, none⟩) (ls ++ [U])) := hide (fun W x hO hB => rdL_made hO hB HVL.out HVR.out HU.out)
  generalize hNN : ls.length = N at *
  clear hNN
  have hw1 : IntKind.i64.wrap ((N : Int) + 1) = ((N : Int) + 1) := by simp [IntKind.wrap, IntKind.signed, IntKind.bits]; omega
  have hk1 : (N : Int) < ((N : Int) + 1) := by omega
  go_enter Tryz.func112, Tryz.ntmps112
  go_wp2_with (first
    | (at_make; refine wpList_make_full _ rfl (.tmp 8) (.tmp 8) 31 rfl w.heap.size 35 i1 (.slice none 0 0) 1 Tryz.underlying31 ki kz0 kz1 .i64 .i64 _ _ (N + 1) rfl rfl (by simp) (by simp) hby hml (Nat.le_refl _) ?_; intro w1 ho1 hg1; have O1 := hide ho1; have B1 := hide (kept_none hg1); clear ho1 hg1)
    | (refine wpList_copy_onto rfl (.tmp 10) (.tmp 11) 31 rfl w.heap.size 35 i1 1 Tryz.underlying31 ki kz1 (by decide) w.heap.size (N + 1) (N + 1) _ rfl O1.out a N c vs rfl hle HVN.out (HVC.out w1 B1.out) HV1.out ?_; rw [HZC.out]; intro w2 ho2 hk2; have O2 := hide ho2; have B2 := hide (B1.out.trans (hk2.below (B := w.heap.size) B1.out.size (fun b hb e => by omega))); have cN : w2.cell? ⟨w.heap.size, N, none⟩ = some (.slice none 0 0) := (row_end ho2 HVL.out); have fN : w2.frozen? ⟨w.heap.size, N, none⟩ = false := ho2.frozenAt _; clear ho2 hk2))
  go_ret
  exact ⟨_, _, by rw [HLen.out]; rfl, HRd.out _ _ O2.out B2.out, B2.out.setCell (p := ⟨w.heap.size, N, none⟩) (Nat.le_refl _) _⟩
end Go.Proofs.YteegkblkfdnfiaaGreat

