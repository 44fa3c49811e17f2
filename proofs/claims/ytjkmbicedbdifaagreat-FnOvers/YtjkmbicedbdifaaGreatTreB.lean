/-
  The program's questions of a list of items: has, those, without; the closures isAt, isIn and the one of TreeFault.
-/
import Derived.Test.YtjkmbicedbdifaaGreatJ2
import Derived.Test.YtjkmbicedbdifaaGreatJ1
import Derived.Shelf.Abstract
namespace Go.Proofs.YtjkmbicedbdifaaGreat
open Go.RowKit Go.Maps
set_option linter.unusedVariables false
attribute [local go_sem ↓] Go.wp_at_zero Go.wp_at_succ

set_option maxRecDepth 100000 in
set_option maxHeartbeats 1600000 in
theorem hasI_any (a : Option Addr) (c n : Nat) (es : List En) (fn : FuncId) (cap : Array Value) (f : En → Bool) (w : World) (h : RdI w a es) (hn : n = es.length) (hl : es.length ≤ 1048576) (hs : SmallE es) (hf : Asks w fn cap f) :
    Calls Tryz.prog 102 #[.slice a n c, .func (.func fn) #[] cap] w fun r w' => r = .returned (.bool (es.any f)) ∧ Below w.heap.size w w' := by
  subst hn
  have HC := hide (first_any a c es.length es fn cap f w h rfl hl hs hf)
  clear h hf hs
  go_enter Tryz.func102, Tryz.ntmps102
  go_wp2_with fail
  refine HC.out.mono ?_
  rintro r w1 ⟨(⟨e, x, cc, hq, rfl, -⟩ | ⟨hq, rfl⟩), hb1⟩
  · have HA := hide (show es.any f = true from List.any_eq_true.2 ⟨e, List.mem_of_find?_eq_some hq, List.find?_some hq⟩)
    have B1 := hide hb1
    clear hb1 hq
    go_wp2_with fail
    go_ret
    exact ⟨ret_bool HA.out.symm, below_next B1.out (below_alloc _ _)⟩
  · have HA := hide (show es.any f = false from List.any_eq_false.2 (fun x hx => List.find?_eq_none.1 hq x hx))
    have B1 := hide hb1
    clear hb1 hq
    go_wp2_with fail
    go_ret
    exact ⟨ret_bool HA.out.symm, below_next B1.out (below_alloc _ _)⟩

theorem filter_in {es : List En} {f : En → Bool} {k : Nat} {e : En} (he : es[k]? = some e) (h : f e = true) : (es.take (k + 1)).filter f = (es.take k).filter f ++ [e] := by
  rw [take_snoc_at he, List.filter_append]; simp [h]
theorem filter_out {es : List En} {f : En → Bool} {k : Nat} {e : En} (he : es[k]? = some e) (h : f e = false) : (es.take (k + 1)).filter f = (es.take k).filter f := by
  rw [take_snoc_at he, List.filter_append]; simp [h]

set_option maxRecDepth 100000 in
set_option maxHeartbeats 3200000 in
theorem those_any (a : Option Addr) (c n : Nat) (es : List En) (fn : FuncId) (cap : Array Value) (f : En → Bool) (w : World) (h : RdI w a es) (hn : n = es.length) (hl : es.length ≤ 1048576) (hs : SmallE es) (hf : Asks w fn cap f) :
    Calls Tryz.prog 49 #[.slice a n c, .func (.func fn) #[] cap] w fun r w' => ∃ av cv, r = .returned (.slice av (es.filter f).length cv) ∧ LI w w' (.slice av (es.filter f).length cv) (es.filter f) ∧ Below w.heap.size w w' := by
  subst hn
  obtain ⟨i1, ki, kz0, kz1, kz2⟩ := info_parts Tryz.infoIt
  have eg := hf.1
  have HF := hide hf
  have HR := hide h
  have HS := hide hs
  clear h hf hs
  go_enter Tryz.func49, Tryz.ntmps49
  go_wp2_with fail
  go_loopw [5, 10] (fun v i wr => ∃ k : Nat, k ≤ es.length ∧ i = .int .i64 k ∧ Hid (LI w wr v ((es.take k).filter f)) ∧ Hid (Below w.heap.size w wr)) (fun _ i _ => es.length - (intOf i).toNat)
  case atStart => exact ⟨0, Nat.zero_le _, rfl, hide (LI.nil _ _), hide (Below.refl _ _)⟩
  case round =>
    obtain ⟨k, hk, rfl, HL, HW⟩ := hrel
    have hsz := HW.out.size
    obtain ⟨lv, lc, hv⟩ := HL.out.shape
    subst hv
    have hrl := List.length_filter_le f (es.take k)
    rw [List.length_take] at hrl
    by_cases hlt : k < es.length
    · obtain ⟨b, off, e, x, cc, rfl, hb, he, c0, c1, c2, c3, hr⟩ := (HR.out.below HW.out).at hlt
      obtain ⟨b', off', e', x', cc', hbb, hb', he', d0, d1, d2, d3, hr'⟩ := HR.out.at hlt
      simp only [Option.some.injEq, Addr.mk.injEq, and_true] at hbb
      obtain ⟨rfl, rfl⟩ := hbb
      have : e' = e := Option.some.inj (he'.symm.trans he)
      subst this
      have d1' := (HW.out.cell (p := ⟨b, off + k * 4 + 1, none⟩) hb').trans d1
      rw [c1] at d1'
      simp only [Option.some.injEq, Value.slice.injEq, true_and] at d1'
      obtain ⟨rfl, rfl⟩ := d1'
      have hsm := HS.out e' (List.mem_of_getElem? he)
      have HX := hide he
      have HRc := hide hr'
      clear he hr hr' he' d0 d1 d2 d3
      have BA := hide (below_alloc wr (.cells #[.int .i64 e'.size, .slice x e'.chunks.length cc, .string (str e'.path), .int .i64 e'.kind] 64))
      have F4 := hide (Four.new wr (.int .i64 e'.size) (.slice x e'.chunks.length cc) (.string (str e'.path)) (.int .i64 e'.kind) 64)
      go_wp2_with fail
      refine (HF.out.2 e' x cc _ hsm.1 hsm.2 (HRc.out.below (below_next HW.out BA.out)) (below_next HW.out BA.out)).mono ?_
      rintro r w3 ⟨rfl, hb3⟩
      have BB5 := hide (below_next BA.out hb3)
      obtain ⟨f0, f1, f2, f3⟩ := F4.out.below hb3
      clear hb3 c0 c1 c2 c3
      cases hq : f e'
      · have HN := hide (filter_out HX.out hq)
        clear hq
        go_wp2_with fail
        go_roundw
        case rel => exact ⟨k + 1, by omega, by go_num, hide (by rw [HN.out]; exact HL.out.below BB5.out), hide (below_next HW.out BB5.out)⟩
        case measure => simp [intOf]; omega
      · have HN := hide (filter_in HX.out hq)
        clear hq
        obtain ⟨rs, g1, g2, g3⟩ := HL.out
        have G1 := hide g1
        have G2 := hide (ownsRow_below g2 BB5.out)
        have G3 := hide g3
        clear g1 g2 g3
        obtain ⟨L, hL⟩ : ∃ L, L = ((es.take k).filter f).length := ⟨_, rfl⟩
        rw [← hL] at hrl G2 ⊢
        have HLn := hide hL
        clear hL
        have hm1 : L + 1 ≤ maxLen := by unfold maxLen; omega
        have hm1' : (L + 1) * 56 ≤ 140737488355328 := by omega
        have hsz5 := BB5.out.size
        go_wp2_with (at_builtin; refine wpList_append_put rfl (.tmp 17) (.tmp 19) 55 rfl w.heap.size 64 i1 (.agg #[.int .i64 0, .slice none 0 0, .string ⟨#[]⟩, .int .i64 0]) 4 56 Tryz.underlying55 ki kz0 kz1 kz2 rfl (by decide) _ _ _ rfl G2.out _ rfl rfl rfl (by intro u hu; simp at hu; rcases hu with rfl | rfl | rfl | rfl <;> rfl) hm1 hm1' (by omega) ?_; intro av6 cv6 w6 hown6 hk6; have O6 := hide hown6; have K6 := hide hk6; clear hown6 hk6)
        go_roundw
        case rel =>
          refine ⟨k + 1, by omega, by go_num, hide ?_, hide ?_⟩
          · rw [HN.out]
            exact LI.push (e := e') (a := x) (c := cc) G1.out HLn.out G3.out HRc.out O6.out
          · exact (below_next HW.out BB5.out).trans (K6.out.below (by omega) (fun q hq hS => by have := (G2.out.lt q hS).1; omega))
        case measure => simp [intOf]; omega
    · have HE := hide (show es.take k = es from List.take_of_length_le (by omega))
      rw [HE.out] at HL ⊢
      clear HE
      go_wp2_with fail
      go_ret
      exact ⟨lv, lc, rfl, HL.out, HW.out⟩

set_option maxRecDepth 100000 in
set_option maxHeartbeats 800000 in
theorem isAtLit_any (p : Bs) (b : Nat) (e : En) (a : Option Addr) (c : Nat) (w : World) (h : w.cell? ⟨b, 0, none⟩ = some (.string (str p))) :
    Calls Tryz.prog 80 #[.agg #[.int .i64 e.size, .slice a e.chunks.length c, .string (str e.path), .int .i64 e.kind], .pointer (some ⟨b, 0, none⟩)] w fun r w' => r = .returned (.bool (decide (e.path = p))) ∧ Below w.heap.size w w' := by
  have hb := World.block_lt_of_cell? w ⟨b, 0, none⟩ h
  have hs := str_beq e.path p
  generalize decide (e.path = p) = Z at *
  have hbw : (w.alloc (.cells #[.int .i64 e.size, .slice a e.chunks.length c, .string (str e.path), .int .i64 e.kind] 64)).cell? ⟨b, 0, none⟩ = some (.string (str p)) := ((below_alloc w _).cell (p := ⟨b, 0, none⟩) hb).trans h
  go_enter Tryz.func80, Tryz.ntmps80
  go_wp2_with fail
  go_ret
  exact ⟨rfl, below_alloc _ _⟩
theorem isAt_any (p : Bs) (w : World) :
    Calls Tryz.prog 46 #[.string (str p)] w fun r w' => r = .returned (.func (.func 80) #[] #[.pointer (some ⟨w.heap.size, 0, none⟩)]) ∧ Below w.heap.size w w' ∧ Asks w' 80 #[.pointer (some ⟨w.heap.size, 0, none⟩)] (fun e => decide (e.path = p)) := by
  have hmf : ∀ (fn : Fn) (first cap : Array Value) (w : World), (Instr.makeFunc fn first cap).run Tryz.prog w = .ok (.func fn first cap) w := fun _ _ _ _ => rfl
  go_enter Tryz.func46, Tryz.ntmps46
  go_wp2_with fail
  go_ret
  refine ⟨rfl, below_alloc _ _, enters_of Tryz.func80 (by kernel_rfl) rfl, fun e a c w' he _ _ hb => ?_⟩
  exact isAtLit_any p w.heap.size e a c w' ((hb.cell (p := ⟨w.heap.size, 0, none⟩) (by simp)).trans (by simp))

/-- Is it right in the directory of p? -/
def inP (p : Bs) (e : En) : Bool := if parC e.path = 4 then decide (p = [47]) else decide (parT e.path = p)
set_option maxRecDepth 100000 in
set_option maxHeartbeats 800000 in
theorem isInLit_any (p : Bs) (b : Nat) (e : En) (a : Option Addr) (c : Nat) (w : World) (h : w.cell? ⟨b, 0, none⟩ = some (.string (str p))) (hl : e.path.length ≤ 1048576) :
    Calls Tryz.prog 83 #[.agg #[.int .i64 e.size, .slice a e.chunks.length c, .string (str e.path), .int .i64 e.kind], .pointer (some ⟨b, 0, none⟩)] w fun r w' => r = .returned (.bool (inP p e)) ∧ Below w.heap.size w w' := by
  have HB0 := hide (below_alloc w (.cells #[.int .i64 e.size, .slice a e.chunks.length c, .string (str e.path), .int .i64 e.kind] 64))
  have hb := World.block_lt_of_cell? w ⟨b, 0, none⟩ h
  have KC : Hid (∀ w' : World, Below w.heap.size w w' → w'.cell? ⟨b, 0, none⟩ = some (.string (str p))) := hide (fun w' hb' => (hb'.cell (p := ⟨b, 0, none⟩) hb).trans h)
  have HPC := hide (fun (u : World) => implParentOf_any (str e.path) u (by rw [str_size]; omega))
  rw [str_data] at HPC
  have hs1 : ((str p).toList == [47]) = decide (p = [47]) := by rw [str_toList]; by_cases h47 : p = [47] <;> simp [h47]
  have hs2 := str_beq (parT e.path) p
  have HI := hide (show inP p e = if parC e.path = 4 then decide (p = [47]) else decide (parT e.path = p) from rfl)
  generalize inP p e = Z at *
  generalize decide (p = [47]) = Z1 at *
  generalize decide (parT e.path = p) = Z2 at *
  generalize parT e.path = PT at *
  generalize parC e.path = PC at *
  clear h
  go_enter Tryz.func83, Tryz.ntmps83
  go_wp2_with fail
  refine (HPC.out _).mono ?_
  rintro r w1 ⟨rfl, hb1⟩
  have B1 := hide (below_next HB0.out hb1)
  have B2 := hide (below_next B1.out (below_alloc w1 (.cells #[.int .i64 PC, .string (str PT)] 89)))
  have hc := KC.out _ B2.out
  clear hb1
  by_cases h4 : PC = 4
  · have hb4 : (PC == 4) = true := by simp [h4]
    have HZ := hide (show Z = Z1 from by rw [HI.out, if_pos h4])
    clear h4
    go_wp2_with fail
    go_ret
    exact ⟨ret_bool HZ.out.symm, B2.out⟩
  · have hb4 : (PC == 4) = false := by simp [h4]
    have HZ := hide (show Z = Z2 from by rw [HI.out, if_neg h4])
    clear h4
    go_wp2_with fail
    go_ret
    exact ⟨ret_bool HZ.out.symm, B2.out⟩
theorem isIn_any (p : Bs) (w : World) :
    Calls Tryz.prog 50 #[.string (str p)] w fun r w' => r = .returned (.func (.func 83) #[] #[.pointer (some ⟨w.heap.size, 0, none⟩)]) ∧ Below w.heap.size w w' ∧ Asks w' 83 #[.pointer (some ⟨w.heap.size, 0, none⟩)] (inP p) := by
  have hmf : ∀ (fn : Fn) (first cap : Array Value) (w : World), (Instr.makeFunc fn first cap).run Tryz.prog w = .ok (.func fn first cap) w := fun _ _ _ _ => rfl
  go_enter Tryz.func50, Tryz.ntmps50
  go_wp2_with fail
  go_ret
  refine ⟨rfl, below_alloc _ _, enters_of Tryz.func83 (by kernel_rfl) rfl, fun e a c w' he _ _ hb => ?_⟩
  exact isInLit_any p w.heap.size e a c w' ((hb.cell (p := ⟨w.heap.size, 0, none⟩) (by simp)).trans (by simp)) he

set_option maxHeartbeats 800000 in
theorem isOfTree_any (p : ByteArray) (k z : Int) (a : Option Addr) (n c : Nat) (w : World) :
    Calls Tryz.prog 104 #[.agg #[.int .i64 z, .slice a n c, .string p, .int .i64 k]] w fun r w' => r = .returned (.bool (treeK k)) ∧ Below w.heap.size w w' := by
  by_cases h0 : k = 1
  · have e : treeK k = true := decide_eq_true (.inl h0)
    have hb : (k == 1) = true := by simp [h0]
    rw [e]
    clear e h0
    go_enter Tryz.func104, Tryz.ntmps104
    go_wp2
    go_ret
    exact ⟨rfl, below_alloc _ _⟩
  · have hb : (k == 1) = false := by simp [h0]
    by_cases h1 : k = 2
    · have e : treeK k = true := decide_eq_true (.inr h1)
      have hb1 : (k == 2) = true := by simp [h1]
      rw [e]
      clear e h0 h1
      go_enter Tryz.func104, Tryz.ntmps104
      go_wp2
      go_ret
      exact ⟨rfl, below_alloc _ _⟩
    · have e : treeK k = false := decide_eq_false (fun h => h.elim h0 h1)
      have hb1 : (k == 2) = false := by simp [h1]
      rw [e]
      clear e h0 h1
      go_enter Tryz.func104, Tryz.ntmps104
      go_wp2
      go_ret
      exact ⟨rfl, below_alloc _ _⟩

set_option maxRecDepth 100000 in
set_option maxHeartbeats 800000 in
theorem noTree_any (e : En) (a : Option Addr) (c : Nat) (w : World) :
    Calls Tryz.prog 103 #[.agg #[.int .i64 e.size, .slice a e.chunks.length c, .string (str e.path), .int .i64 e.kind]] w fun r w' => r = .returned (.bool (!treeK e.kind)) ∧ Below w.heap.size w w' := by
  have HC := hide (fun (u : World) => isOfTree_any (str e.path) e.kind e.size a e.chunks.length c u)
  generalize treeK e.kind = Z at *
  go_enter Tryz.func103, Tryz.ntmps103
  go_wp2_with fail
  refine (HC.out _).mono ?_
  rintro r w1 ⟨rfl, hb1⟩
  have B1 := hide (below_next (below_alloc w (.cells #[.int .i64 e.size, .slice a e.chunks.length c, .string (str e.path), .int .i64 e.kind] 64)) hb1)
  clear hb1
  go_wp2_with fail
  go_ret
  exact ⟨rfl, B1.out⟩
theorem noTree_asks (w : World) : Asks w 103 #[] (fun e => !treeK e.kind) :=
  ⟨enters_of Tryz.func103 (by kernel_rfl) rfl, fun e a c w' _ _ _ _ => noTree_any e a c w'⟩

set_option maxRecDepth 100000 in
set_option maxHeartbeats 800000 in
theorem withoutLit_any (b : Nat) (fn : FuncId) (cap : Array Value) (f : En → Bool) (W0 : World) (hf : Asks W0 fn cap f) (e : En) (a : Option Addr) (c : Nat) (w : World) (he : e.path.length ≤ 1048576) (hec : e.chunks.length ≤ 1048576) (hre : Reads .i64 w a e.chunks) (hw : Below W0.heap.size W0 w) (h : w.cell? ⟨b, 0, none⟩ = some (.func (.func fn) #[] cap)) :
    Calls Tryz.prog 135 #[.agg #[.int .i64 e.size, .slice a e.chunks.length c, .string (str e.path), .int .i64 e.kind], .pointer (some ⟨b, 0, none⟩)] w fun r w' => r = .returned (.bool (!f e)) ∧ Below w.heap.size w w' := by
  have eg := hf.1
  have B0 := hide (below_alloc w (.cells #[.int .i64 e.size, .slice a e.chunks.length c, .string (str e.path), .int .i64 e.kind] 64))
  have hb := World.block_lt_of_cell? w ⟨b, 0, none⟩ h
  have hc := (B0.out.cell (p := ⟨b, 0, none⟩) hb).trans h
  have HF := hide (hf.2 e a c _ he hec (hre.below B0.out) (below_next hw B0.out))
  generalize f e = Z at *
  clear h hf hre
  go_enter Tryz.func135, Tryz.ntmps135
  go_wp2_with fail
  refine HF.out.mono ?_
  rintro r w1 ⟨rfl, hb1⟩
  have B1 := hide (below_next B0.out hb1)
  clear hb1
  go_wp2_with fail
  go_ret
  exact ⟨rfl, B1.out⟩
set_option maxRecDepth 100000 in
set_option maxHeartbeats 800000 in
theorem without_any (a : Option Addr) (c n : Nat) (es : List En) (fn : FuncId) (cap : Array Value) (f : En → Bool) (w : World) (h : RdI w a es) (hn : n = es.length) (hl : es.length ≤ 1048576) (hs : SmallE es) (hf : Asks w fn cap f) :
    Calls Tryz.prog 105 #[.slice a n c, .func (.func fn) #[] cap] w fun r w' => ∃ av cv w1, r = .returned (.slice av (es.filter fun e => !f e).length cv) ∧ LI w1 w' (.slice av (es.filter fun e => !f e).length cv) (es.filter fun e => !f e) ∧ Below w.heap.size w w1 ∧ Below w1.heap.size w1 w' := by
  have hmf : ∀ (fn : Fn) (first cap : Array Value) (w : World), (Instr.makeFunc fn first cap).run Tryz.prog w = .ok (.func fn first cap) w := fun _ _ _ _ => rfl
  subst hn
  have B0 := hide (below_alloc w (.cells #[.func (.func fn) #[] cap] 80))
  have HA : Hid (Asks (w.alloc (.cells #[.func (.func fn) #[] cap] 80)) 135 #[.pointer (some ⟨w.heap.size, 0, none⟩)] (fun e => !f e)) := hide ⟨enters_of Tryz.func135 (by kernel_rfl) rfl, fun e a c w' he hec hre hb =>
    withoutLit_any w.heap.size fn cap f w hf e a c w' he hec hre (below_next B0.out hb) ((hb.cell (p := ⟨w.heap.size, 0, none⟩) (by simp)).trans (by simp))⟩
  have HC := hide (those_any a c es.length es _ _ (fun e => !f e) _ (h.below B0.out) rfl hl hs HA.out)
  clear h hf hs HA
  go_enter Tryz.func105, Tryz.ntmps105
  go_wp2_with fail
  generalize w.alloc (.cells #[.func (.func fn) #[] cap] 80) = W0 at *
  refine HC.out.mono ?_
  rintro r w1 ⟨av, cv, rfl, hL, hb1⟩
  have HL := hide hL
  have B1 := hide hb1
  clear hL hb1 HC
  go_wp2_with fail
  go_ret
  exact ⟨av, cv, W0, rfl, HL.out, B0.out, B1.out⟩
end Go.Proofs.YtjkmbicedbdifaaGreat
