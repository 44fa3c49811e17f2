/-
  Texts put together: MntD MntG OvrG MntI MntJ MntL MntE MntN MntO MntP MntQ MntR MntS.
-/
import Derived.Test.YteegkblkfdnfiaaGreatKTold11
import Derived.Test.YteegkblkfdnfiaaGreatKTold8
import Derived.Test.YteegkblkfdnfiaaGreatKTold10
import Derived.Test.YteegkblkfdnfiaaGreatKTold6
import Derived.Test.YteegkblkfdnfiaaGreatKTold5
import Derived.Test.YteegkblkfdnfiaaGreatKTold3
namespace Go.Proofs.YteegkblkfdnfiaaGreat
open Go.RowKit Go.Maps
set_option linter.unusedVariables false
attribute [local go_sem ↓] Go.wp_at_zero Go.wp_at_succ

def filU (U : List En) (e : En) : Int × List En := filR (above e.path).length U e
def wrtR (U : List En) (e : En) : Int := (filU U e).1
def wrtL (U : List En) (e : En) : List En := if (filU U e).1 = 0 then (filU U e).2 else U
set_option maxRecDepth 100000 in
set_option maxHeartbeats 3200000 in
theorem written_any (a : Option Addr) (c n : Nat) (U : List En) (e : En) (x : Option Addr) (m cc : Nat) (w : World) (hR : Right U) (h : RdE w a U) (hn : n = U.length) (hp : faultP e.path = 0) (hm : m = e.chunks.length) (hx : Reads .i64 w x e.chunks) (hpl : e.path.length ≤ 1048576) (hcl : e.chunks.length ≤ 1048576) :
    Calls Tryz.prog 116 #[.slice a n c, .agg #[.string (str e.path), .int .i64 e.kind, .int .i64 e.size, .slice x m cc]] w (ResG 0 (wrtR U e) (wrtL U e) w) := by
  subst hn
  subst hm
  have B0 := hide (below_next (below_alloc w (.cells #[.string (str e.path), .int .i64 e.kind, .int .i64 e.size, .slice x e.chunks.length cc] 50)) (below_alloc (w.alloc (.cells #[.string (str e.path), .int .i64 e.kind, .int .i64 e.size, .slice x e.chunks.length cc] 50)) (.cells #[.int .i64 0, .int .i64 0, .slice none 0 0] 69)))
  have FE0 := hide ((Four.new w (.string (str e.path)) (.int .i64 e.kind) (.int .i64 e.size) (.slice x e.chunks.length cc) 50).below (below_alloc (w.alloc (.cells #[.string (str e.path), .int .i64 e.kind, .int .i64 e.size, .slice x e.chunks.length cc] 50)) (.cells #[.int .i64 0, .int .i64 0, .slice none 0 0] 69)))
  have X0 := hide (Box3.new (w.alloc (.cells #[.string (str e.path), .int .i64 e.kind, .int .i64 e.size, .slice x e.chunks.length cc] 50)) (.int .i64 0) (.int .i64 0) (.slice none 0 0) 69)
  have hsA : (w.alloc (.cells #[.string (str e.path), .int .i64 e.kind, .int .i64 e.size, .slice x e.chunks.length cc] 50)).heap.size = w.heap.size + 1 := by simp
  rw [hsA] at X0
  have HF := hide (fun u (hu : Below w.heap.size w u) => filledUp_any a c U hR (above e.path).length e x cc u rfl hp (h.below hu) (hx.below hu) hpl hcl)
  have hlU := hR.len
  have HST := hide (fun (q : Int) u (hu : Below w.heap.size w u) => stays_any a c U.length U q u (h.below hu) rfl (by omega) (right_small hR))
  have HQ := hide (show wrtR U e = (filU U e).1 ∧ ((filU U e).1 = 0 → wrtL U e = (filU U e).2) ∧ ((filU U e).1 ≠ 0 → wrtL U e = U) from ⟨rfl, fun h => by rw [wrtL, if_pos h], fun h => by rw [wrtL, if_neg h]⟩)
  have e9 : filR (above e.path).length U e = filU U e := rfl
  rw [e9] at HF
  clear e9 h hx hsA hR
  generalize filU U e = FU at *
  obtain ⟨q, L⟩ := FU
  have hQ1 := HQ.out.1
  have hQ2 := HQ.out.2
  simp only at hQ1 hQ2 HF
  have HQ1 := hide hQ1
  have HQ2 := hide hQ2
  clear hQ1 hQ2 HQ
  go_enter Tryz.func116, Tryz.ntmps116
  obtain ⟨f0, f1, f2, f3⟩ := FE0.out
  go_wp2_with fail
  clear f0 f1 f2 f3
  generalize hW0 : (w.alloc (.cells #[.string (str e.path), .int .i64 e.kind, .int .i64 e.size, .slice x e.chunks.length cc] 50)).alloc (.cells #[.int .i64 0, .int .i64 0, .slice none 0 0] 69) = W0 at *
  clear hW0
  have hlt := X0.out.lt
  refine (HF.out W0 B0.out).mono ?_
  rintro r w1 ⟨av, cv, rfl, hG1, hb1⟩
  have A1 := hide (below_alloc w1 (.cells #[.int .i64 q, .slice av L.length cv] 54))
  have T1 := hide (Box.new w1 (.int .i64 q) (.slice av L.length cv) 54)
  have B1 := hide (below_next B0.out (below_next hb1 A1.out))
  have X1 := hide (X0.out.below (below_next hb1 A1.out))
  have G1 := hide ((GW.of hG1).below A1.out)
  have hs1 := hb1.size
  clear hG1 hb1 HF A1
  obtain ⟨⟨s0, s1⟩, s2, s3⟩ := T1.out
  obtain ⟨⟨t0, t1, t2⟩, t3, t4, t5⟩ := X1.out
  by_cases hq : q = 0
  · subst hq
    have HL := hide (HQ2.out.1 rfl)
    go_wp2_with fail
    exact bodyPost_ret (v := .agg #[.int .i64 0, .int .i64 0, .slice av L.length cv]) (by simp [results, Tryz.results116, go_sem, t0, t1, t2]) rfl (by rw [HQ1.out, HL.out]; exact ResG.of (by omega) (by omega) rfl G1.out B1.out)
  · have HL := hide (HQ2.out.2 hq)
    have hq2 : (q != 0) = true := by simp; exact hq
    clear hq
    go_wp2_with fail
    clear s0 s1 s2 s3 t0 t1 t2 t3 t4 t5
    generalize w1.alloc (.cells #[.int .i64 q, .slice av L.length cv] 54) = W1 at *
    refine (HST.out q W1 B1.out).mono ?_
    rintro r w2 ⟨av2, cv2, rfl, hG2, hb2⟩
    have B2 := hide (below_next B1.out hb2)
    have G2 := hide hG2
    have hltW := X1.out.lt
    obtain ⟨⟨t0, t1, t2⟩, t3, t4, t5⟩ := X1.out.below hb2
    clear hG2 hb2
    go_wp2_with fail
    exact bodyPost_ret (v := .agg #[.int .i64 0, .int .i64 q, .slice av2 U.length cv2]) (by simp [results, Tryz.results116, go_sem, t0, t1, t2]) rfl (by rw [HQ1.out, HL.out]; exact ResG.of (by omega) (by omega) rfl G2.out B2.out)
def homR (ls : List (List En)) (p : Bs) : Int := if parentP p = [] then 0 else lovC ls (parentP p)
set_option maxRecDepth 100000 in
set_option maxHeartbeats 1600000 in
theorem homeOver_any (a : Option Addr) (c n : Nat) (ls : List (List En)) (p : Bs) (w : World) (h : RdL w a ls) (hn : n = ls.length) (hl : ls.length ≤ 1048576) (hs : SmallL ls) (hp : faultP p = 0) (hpl : p.length ≤ 1048576) :
    Calls Tryz.prog 156 #[.slice a n c, .string (str p)] w fun r w' => r = .returned (.int .i64 (homR ls p)) ∧ Below w.heap.size w w' := by
  subst hn
  have hsz := str_size p
  have HPO := hide (implParentOf_any (str p) w (by omega))
  rw [str_data, parC_right hp, parT_right hp] at HPO
  by_cases h0 : parentP p = []
  · have HQ := hide (show homR ls p = 0 by rw [homR, if_pos h0])
    rw [if_pos h0] at HPO
    generalize parentP p = PT at *
    clear h hs h0
    go_enter Tryz.func156, Tryz.ntmps156
    go_wp2_with fail
    refine HPO.out.mono ?_
    rintro r w1 ⟨rfl, hb1⟩
    have B1 := hide (below_next hb1 (below_alloc w1 (.cells #[.int .i64 4, .string (str PT)] 203)))
    have T1 := hide (Box.new w1 (.int .i64 4) (.string (str PT)) 203)
    clear hb1
    obtain ⟨⟨s0, s1⟩, s2, s3⟩ := T1.out
    go_wp2_with fail
    go_ret
    exact ⟨by rw [HQ.out]; rfl, B1.out⟩
  · have HQ := hide (show homR ls p = lovC ls (parentP p) by rw [homR, if_neg h0])
    rw [if_neg h0] at HPO
    have hppl : (parentP p).length ≤ 1048576 := by have := below_len (parent_above hp h0).2; omega
    have HLO := hide (fun u (hu : Below w.heap.size w u) => listOverFault_any a c ls.length ls (parentP p) u (h.below hu) rfl hl hs hppl)
    generalize parentP p = PT at *
    clear h hs h0
    go_enter Tryz.func156, Tryz.ntmps156
    go_wp2_with fail
    refine HPO.out.mono ?_
    rintro r w1 ⟨rfl, hb1⟩
    have B1 := hide (below_next hb1 (below_alloc w1 (.cells #[.int .i64 0, .string (str PT)] 203)))
    have T1 := hide (Box.new w1 (.int .i64 0) (.string (str PT)) 203)
    clear hb1
    obtain ⟨⟨s0, s1⟩, s2, s3⟩ := T1.out
    go_wp2_with fail
    clear s0 s1 s2 s3
    generalize w1.alloc (.cells #[.int .i64 0, .string (str PT)] 203) = W1 at *
    refine (HLO.out W1 B1.out).mono ?_
    rintro r w2 ⟨rfl, hb2⟩
    have B2 := hide (below_next B1.out hb2)
    clear hb2
    go_wp2_with fail
    go_ret
    exact ⟨by rw [HQ.out]; rfl, B2.out⟩
def wovR (ls : List (List En)) (p : Bs) : Int := if homR ls p = 0 then (if lovC ls p = 0 then 9 else 0) else homR ls p
def movR (ls : List (List En)) (p : Bs) : Int := if homR ls p = 0 then (if plcC ls p = 0 then 7 else 0) else homR ls p
def rovR (ls : List (List En)) (p : Bs) : Int := if plcC ls p = 0 then (if 0 < (lovL ls p).length then 1 else 0) else plcC ls p
def dirKd (U : List En) (p : Bs) : Int := if findCodeP U p = 0 then 4 else 2
set_option maxRecDepth 100000 in
set_option maxHeartbeats 1600000 in
theorem writeOverR_any (a : Option Addr) (c n : Nat) (ls : List (List En)) (p : Bs) (w : World) (h : RdL w a ls) (hn : n = ls.length) (hl : ls.length ≤ 1048576) (hs : SmallL ls) (hp : faultP p = 0) (hpl : p.length ≤ 1048576) :
    Calls Tryz.prog 114 #[.slice a n c, .string (str p)] w fun r w' => r = .returned (.int .i64 (wovR ls p)) ∧ Below w.heap.size w w' := by
  subst hn
  have HH := hide (homeOver_any a c ls.length ls p w h rfl hl hs hp hpl)
  have HLO := hide (fun u (hu : Below w.heap.size w u) => listOverFault_any a c ls.length ls p u (h.below hu) rfl hl hs hpl)
  clear h hs
  by_cases h1 : homR ls p = 0
  · rw [h1] at HH
    by_cases h2 : lovC ls p = 0
    · have HQ := hide (show wovR ls p = 9 by rw [wovR, if_pos h1, if_pos h2])
      rw [h2] at HLO
      clear h1 h2
      go_enter Tryz.func114, Tryz.ntmps114
      go_wp2_with fail
      refine HH.out.mono ?_
      rintro r w1 ⟨rfl, hb1⟩
      have B1 := hide hb1
      clear hb1
      go_wp2_with fail
      refine (HLO.out w1 B1.out).mono ?_
      rintro r w2 ⟨rfl, hb2⟩
      have B2 := hide (below_next B1.out hb2)
      clear hb2
      go_wp2_with fail
      go_ret
      exact ⟨by rw [HQ.out]; rfl, B2.out⟩
    · have HQ := hide (show wovR ls p = 0 by rw [wovR, if_pos h1, if_neg h2])
      generalize lovC ls p = F at *
      have hz2 : (F == 0) = false := by simpa using h2
      clear h1 h2
      go_enter Tryz.func114, Tryz.ntmps114
      go_wp2_with fail
      refine HH.out.mono ?_
      rintro r w1 ⟨rfl, hb1⟩
      have B1 := hide hb1
      clear hb1
      go_wp2_with fail
      refine (HLO.out w1 B1.out).mono ?_
      rintro r w2 ⟨rfl, hb2⟩
      have B2 := hide (below_next B1.out hb2)
      clear hb2
      go_wp2_with fail
      go_ret
      exact ⟨by rw [HQ.out]; rfl, B2.out⟩
  · have HQ := hide (show wovR ls p = homR ls p by rw [wovR, if_neg h1])
    generalize homR ls p = F at *
    have hz2 : (F != 0) = true := by simp; exact h1
    clear h1
    go_enter Tryz.func114, Tryz.ntmps114
    go_wp2_with fail
    refine HH.out.mono ?_
    rintro r w1 ⟨rfl, hb1⟩
    have B1 := hide hb1
    clear hb1
    go_wp2_with fail
    go_ret
    exact ⟨by rw [HQ.out]; rfl, B1.out⟩
set_option maxRecDepth 100000 in
set_option maxHeartbeats 1600000 in
theorem makeOverR_any (a : Option Addr) (c n : Nat) (ls : List (List En)) (p : Bs) (w : World) (h : RdL w a ls) (hn : n = ls.length) (hl : ls.length ≤ 1048576) (hs : SmallL ls) (hp : faultP p = 0) (hpl : p.length ≤ 1048576) :
    Calls Tryz.prog 117 #[.slice a n c, .string (str p)] w fun r w' => r = .returned (.int .i64 (movR ls p)) ∧ Below w.heap.size w w' := by
  subst hn
  have hfl : ∀ (w : World) (F : Int) (v : Value), (Instr.field 54 (.agg #[.int .i64 F, v]) 0).run Tryz.prog w = .ok (.int .i64 F) w := fun _ _ _ => by kernel_rfl
  have HH := hide (homeOver_any a c ls.length ls p w h rfl hl hs hp hpl)
  have HLO : Hid (∀ u : World, Below w.heap.size w u → Calls Tryz.prog 121 #[.slice a ls.length c, .string (str p)] u fun r w' => ∃ lv ln lc, r = .returned (.agg #[.int .i64 (plcC ls p), .slice lv ln lc]) ∧ Below u.heap.size u w') := hide (fun u hu => (implLookOver_any a c ls.length ls p u (h.below hu) rfl hl hs hpl).mono (fun r w' ⟨lv, lc, h2, _, h4⟩ => ⟨lv, _, lc, h2, h4⟩))
  clear h hs
  by_cases h1 : homR ls p = 0
  · rw [h1] at HH
    by_cases h2 : plcC ls p = 0
    · have HQ := hide (show movR ls p = 7 by rw [movR, if_pos h1, if_pos h2])
      rw [h2] at HLO
      clear h1 h2
      go_enter Tryz.func117, Tryz.ntmps117
      go_wp2_with fail
      refine HH.out.mono ?_
      rintro r w1 ⟨rfl, hb1⟩
      have B1 := hide hb1
      clear hb1
      go_wp2_with fail
      refine (HLO.out w1 B1.out).mono ?_
      rintro r w2 ⟨lv, ln, lc, rfl, hb2⟩
      have B2 := hide (below_next B1.out hb2)
      clear hb2
      go_wp2_with fail
      go_ret
      exact ⟨by rw [HQ.out]; rfl, B2.out⟩
    · have HQ := hide (show movR ls p = 0 by rw [movR, if_pos h1, if_neg h2])
      generalize plcC ls p = F at *
      have hz2 : (F == 0) = false := by simpa using h2
      clear h1 h2
      go_enter Tryz.func117, Tryz.ntmps117
      go_wp2_with fail
      refine HH.out.mono ?_
      rintro r w1 ⟨rfl, hb1⟩
      have B1 := hide hb1
      clear hb1
      go_wp2_with fail
      refine (HLO.out w1 B1.out).mono ?_
      rintro r w2 ⟨lv, ln, lc, rfl, hb2⟩
      have B2 := hide (below_next B1.out hb2)
      clear hb2
      go_wp2_with fail
      go_ret
      exact ⟨by rw [HQ.out]; rfl, B2.out⟩
  · have HQ := hide (show movR ls p = homR ls p by rw [movR, if_neg h1])
    generalize homR ls p = F at *
    have hz2 : (F != 0) = true := by simp; exact h1
    clear h1
    go_enter Tryz.func117, Tryz.ntmps117
    go_wp2_with fail
    refine HH.out.mono ?_
    rintro r w1 ⟨rfl, hb1⟩
    have B1 := hide hb1
    clear hb1
    go_wp2_with fail
    go_ret
    exact ⟨by rw [HQ.out]; rfl, B1.out⟩
set_option maxRecDepth 100000 in
set_option maxHeartbeats 1600000 in
theorem removeOverR_any (a : Option Addr) (c n : Nat) (ls : List (List En)) (p : Bs) (w : World) (h : RdL w a ls) (hn : n = ls.length) (hl : ls.length ≤ 1048576) (hs : SmallL ls) (hpl : p.length ≤ 1048576) :
    Calls Tryz.prog 119 #[.slice a n c, .string (str p)] w fun r w' => r = .returned (.int .i64 (rovR ls p)) ∧ Below w.heap.size w w' := by
  subst hn
  have hfl : ∀ (w : World) (F : Int) (v : Value), (Instr.field 54 (.agg #[.int .i64 F, v]) 0).run Tryz.prog w = .ok (.int .i64 F) w := fun _ _ _ => by kernel_rfl
  have hfn : ∀ (w : World) (F : Int) (v : Value), (Instr.field 180 (.agg #[.int .i64 F, v]) 1).run Tryz.prog w = .ok v w := fun _ _ _ => by kernel_rfl
  have HLO : Hid (∀ u : World, Below w.heap.size w u → Calls Tryz.prog 121 #[.slice a ls.length c, .string (str p)] u fun r w' => ∃ lv ln lc, r = .returned (.agg #[.int .i64 (plcC ls p), .slice lv ln lc]) ∧ Below u.heap.size u w') := hide (fun u hu => (implLookOver_any a c ls.length ls p u (h.below hu) rfl hl hs hpl).mono (fun r w' ⟨lv, lc, h2, _, h4⟩ => ⟨lv, _, lc, h2, h4⟩))
  have HLI : Hid (∀ u : World, Below w.heap.size w u → Calls Tryz.prog 160 #[.slice a ls.length c, .string (str p)] u fun r w' => ∃ lv lc, r = .returned (.agg #[.int .i64 (lovC ls p), .slice lv (lovL ls p).length lc]) ∧ Below u.heap.size u w') := hide (fun u hu => (implListOver_any a c ls.length ls p u (h.below hu) rfl hl hs hpl).mono (fun r w' ⟨lv, lc, h2, _, h4⟩ => ⟨lv, lc, h2, h4⟩))
  clear h hs
  by_cases h1 : plcC ls p = 0
  · rw [h1] at HLO
    by_cases h2 : 0 < (lovL ls p).length
    · have HQ := hide (show rovR ls p = 1 by rw [rovR, if_pos h1, if_pos h2])
      generalize (lovL ls p).length = N at *
      generalize lovC ls p = C at *
      have h2' : (0 : Int) < (N : Int) := by omega
      clear h1
      go_enter Tryz.func119, Tryz.ntmps119
      go_wp2_with fail
      refine (HLO.out w (Below.refl _ _)).mono ?_
      rintro r w1 ⟨lv, ln, lc, rfl, hb1⟩
      have B1 := hide hb1
      clear hb1
      go_wp2_with fail
      refine (HLI.out w1 B1.out).mono ?_
      rintro r w2 ⟨lv2, lc2, rfl, hb2⟩
      have B2 := hide (below_next B1.out hb2)
      clear hb2
      go_wp2_with fail
      go_ret
      exact ⟨by rw [HQ.out]; rfl, B2.out⟩
    · have HQ := hide (show rovR ls p = 0 by rw [rovR, if_pos h1, if_neg h2])
      generalize (lovL ls p).length = N at *
      generalize lovC ls p = C at *
      have h2' : ¬ (0 : Int) < (N : Int) := by omega
      clear h1
      go_enter Tryz.func119, Tryz.ntmps119
      go_wp2_with fail
      refine (HLO.out w (Below.refl _ _)).mono ?_
      rintro r w1 ⟨lv, ln, lc, rfl, hb1⟩
      have B1 := hide hb1
      clear hb1
      go_wp2_with fail
      refine (HLI.out w1 B1.out).mono ?_
      rintro r w2 ⟨lv2, lc2, rfl, hb2⟩
      have B2 := hide (below_next B1.out hb2)
      clear hb2
      go_wp2_with fail
      go_ret
      exact ⟨by rw [HQ.out]; rfl, B2.out⟩
  · have HQ := hide (show rovR ls p = plcC ls p by rw [rovR, if_neg h1])
    generalize plcC ls p = F at *
    have hz2 : (F != 0) = true := by simp; exact h1
    clear h1
    go_enter Tryz.func119, Tryz.ntmps119
    go_wp2_with fail
    refine (HLO.out w (Below.refl _ _)).mono ?_
    rintro r w1 ⟨lv, ln, lc, rfl, hb1⟩
    have B1 := hide hb1
    clear hb1
    go_wp2_with fail
    go_ret
    exact ⟨by rw [HQ.out]; rfl, B1.out⟩
set_option maxRecDepth 100000 in
set_option maxHeartbeats 1600000 in
theorem dirKind_any (a : Option Addr) (c n : Nat) (U : List En) (p : Bs) (w : World) (h : RdE w a U) (hn : n = U.length) (hl : U.length ≤ 1048576) (hs : SmallE U) (hpl : p.length ≤ 1048576) :
    Calls Tryz.prog 118 #[.slice a n c, .string (str p)] w fun r w' => r = .returned (.int .i64 (dirKd U p)) ∧ Below w.heap.size w w' := by
  subst hn
  have hfl : ∀ (w : World) (F : Int) (v : Value), (Instr.field 54 (.agg #[.int .i64 F, v]) 0).run Tryz.prog w = .ok (.int .i64 F) w := fun _ _ _ => by kernel_rfl
  have HEA : Hid (Calls Tryz.prog 159 #[.slice a U.length c, .string (str p)] w fun r w' => ∃ lv ln lc, r = .returned (.agg #[.int .i64 (findCodeP U p), .slice lv ln lc]) ∧ Below w.heap.size w w') := hide ((implEntryAt_any a c U.length U p w h rfl hl hs hpl).mono (fun r w' ⟨lv, lc, h2, _, h4⟩ => ⟨lv, _, lc, h2, h4⟩))
  clear h hs
  by_cases h1 : findCodeP U p = 0
  · have HQ := hide (show dirKd U p = 4 by rw [dirKd, if_pos h1])
    rw [h1] at HEA
    clear h1
    go_enter Tryz.func118, Tryz.ntmps118
    go_wp2_with fail
    refine HEA.out.mono ?_
    rintro r w1 ⟨lv, ln, lc, rfl, hb1⟩
    have B1 := hide hb1
    clear hb1
    go_wp2_with fail
    go_ret
    exact ⟨by rw [HQ.out]; rfl, B1.out⟩
  · have HQ := hide (show dirKd U p = 2 by rw [dirKd, if_neg h1])
    generalize findCodeP U p = F at *
    have hz2 : (F == 0) = false := by simpa using h1
    clear h1
    go_enter Tryz.func118, Tryz.ntmps118
    go_wp2_with fail
    refine HEA.out.mono ?_
    rintro r w1 ⟨lv, ln, lc, rfl, hb1⟩
    have B1 := hide hb1
    clear hb1
    go_wp2_with fail
    go_ret
    exact ⟨by rw [HQ.out]; rfl, B1.out⟩
end Go.Proofs.YteegkblkfdnfiaaGreat

namespace Go.Proofs.YteegkblkfdnfiaaGreat
open Go.RowKit Go.Maps
set_option linter.unusedVariables false
attribute [local go_sem ↓] Go.wp_at_zero Go.wp_at_succ

def fillStep (o : List En) (u : Bs) : List En := if findE o u = none then putE o (dirQ u) else o
def fillS (U : List En) (e : En) : List En := putE ((above e.path).foldl fillStep U) e
end Go.Proofs.YteegkblkfdnfiaaGreat

namespace Go.Proofs.YteegkblkfdnfiaaGreat
set_option linter.unusedVariables false

theorem askL_of {ls : List (List En)} {p : Bs} (h : layersP ls = 0) (hp : faultP p = 0) : askL ls p = 0 := by
  unfold askL
  rw [if_pos h]; exact hp
theorem mal_zero {ls : List (List En)} (h : malC ls = 0) : layersP ls = 0 ∧ malL ls = allE ls ∧ (allE ls).length ≤ 40 := by
  by_cases hz : layersP ls = 0
  · refine ⟨hz, by rw [malL, if_pos h], ?_⟩
    unfold malC at h
    rw [if_pos hz] at h
    cases hm : malOK ls
    · rw [hm] at h; cases h
    · have := (List.all_eq_true.1 hm) ls.length (List.mem_range.2 (by omega))
      rw [List.take_length] at this
      exact of_decide_eq_true this
  · rw [(mal_bad hz).1] at h; exact absurd h hz
end Go.Proofs.YteegkblkfdnfiaaGreat

namespace Go.Proofs.YteegkblkfdnfiaaGreat
open Go.RowKit Go.Maps
set_option linter.unusedVariables false
attribute [local go_sem ↓] Go.wp_at_zero Go.wp_at_succ

theorem homR_view {ls : List (List En)} {p : Bs} (hz : layersP ls = 0) (hp : faultP p = 0) : homR ls p = homeC (allE ls) p := by
  by_cases h0 : parentP p = []
  · rw [homR, if_pos h0, homeC_top h0]
  · obtain ⟨hq, -⟩ := parent_above hp h0
    have hne : parentP p ≠ [47] := fun e => by rw [e] at hq; revert hq; decide
    rw [homR, if_neg h0, lovC, if_neg hne, (look_all (askL_of hz hq)).1]
    have hf := all_fit (rights_fit (layersP_zero.1 hz).2)
    cases hs : findE (allE ls) (parentP p) with
    | none => rw [homeC_none h0 hs]; rfl
    | some e =>
      have hk := hf.kind e (find_mem hs).1
      simp only [homeC, if_neg h0, hs, Option.isSome_some, if_true]
      have hk2 : e.kind = 1 ∨ e.kind = 2 := by simpa [treeK] using hk
      rcases hk2 with h | h <;> simp [h]
end Go.Proofs.YteegkblkfdnfiaaGreat

namespace Go.Proofs.YteegkblkfdnfiaaGreat
open Go.RowKit Go.Maps
set_option linter.unusedVariables false
attribute [local go_sem ↓] Go.wp_at_zero Go.wp_at_succ

def FillsO (O U : List En) (e : En) (rep : Int) (V : List En) : Prop := (12 < (fillS U e).length → rep = 2 ∧ V = O) ∧ (¬ 12 < (fillS U e).length → rep = 0 ∧ V = fillS U e)
def wrS (T : List En) (p : Bs) : Int := if homeC T p = 0 then (match findE T p with | some e => if e.kind = 2 then 9 else 0 | none => 0) else homeC T p
structure WrS (T U : List En) (p : Bs) (e : En) (rep : Int) (V : List En) : Prop where
  no : wrS T p ≠ 0 → rep = wrS T p ∧ V = U
  yes : wrS T p = 0 → FillsO U U e rep V
theorem WrS.stay {T U : List En} {p : Bs} {e : En} {q : Int} (h : wrS T p = q) (hq : q ≠ 0) : WrS T U p e q U := ⟨fun _ => ⟨h.symm, rfl⟩, fun h2 => absurd (h.symm.trans h2) hq⟩
theorem WrS.fill {T U : List En} {p : Bs} {e : En} {rep : Int} {V : List En} (h : wrS T p = 0) (hf : FillsO U U e rep V) : WrS T U p e rep V := ⟨fun h2 => absurd h h2, fun _ => hf⟩
def mkS (T : List En) (p : Bs) : Int := if homeC T p = 0 then (if (findE T p).isSome then 7 else 0) else homeC T p
def dirF (U : List En) (p : Bs) : En := ⟨p, (match findE U p with | some x => if x.kind = 3 then 4 else 2 | none => 2), 0, []⟩
structure MkS (T U : List En) (p : Bs) (rep : Int) (V : List En) : Prop where
  no : mkS T p ≠ 0 → rep = mkS T p ∧ V = U
  yes : mkS T p = 0 → FillsO U U (dirF U p) rep V
theorem MkS.stay {T U : List En} {p : Bs} {q : Int} (h : mkS T p = q) (hq : q ≠ 0) : MkS T U p q U := ⟨fun _ => ⟨h.symm, rfl⟩, fun h2 => absurd (h.symm.trans h2) hq⟩
theorem MkS.fill {T U : List En} {p : Bs} {rep : Int} {V : List En} (h : mkS T p = 0) (hf : FillsO U U (dirF U p) rep V) : MkS T U p rep V := ⟨fun h2 => absurd h h2, fun _ => hf⟩
end Go.Proofs.YteegkblkfdnfiaaGreat

namespace Go.Proofs.YteegkblkfdnfiaaGreat
open Go.RowKit Go.Maps
set_option linter.unusedVariables false
attribute [local go_sem ↓] Go.wp_at_zero Go.wp_at_succ

def rmS (T : List En) (p : Bs) : Int := match findE T p with | none => 4 | some e => if e.kind = 2 then (if 0 < (namesE T p).length then 1 else 0) else 0
structure RmS (ls : List (List En)) (T U : List En) (p : Bs) (rep : Int) (V : List En) : Prop where
  no : rmS T p ≠ 0 → rep = rmS T p ∧ V = U
  gone : rmS T p = 0 → findE (allE (ls ++ [restE U p true])) p = none → rep = 0 ∧ V = restE U p true
  white : rmS T p = 0 → findE (allE (ls ++ [restE U p true])) p ≠ none → FillsO U (restE U p true) ⟨p, 3, 0, []⟩ rep V
theorem RmS.stay {ls : List (List En)} {T U : List En} {p : Bs} {q : Int} (h : rmS T p = q) (hq : q ≠ 0) : RmS ls T U p q U := ⟨fun _ => ⟨h.symm, rfl⟩, fun h2 => absurd (h.symm.trans h2) hq, fun h2 => absurd (h.symm.trans h2) hq⟩
theorem right_restE {U : List En} {p : Bs} (h : Right U) (hp : faultP p = 0) : Right (restE U p true) := by
  have h1 := right_rest h hp
  have h2 : restP U p = restE U p true := restP_eq (fun x hx => entFault_zero (h.ent x hx)) hp
  rwa [h2] at h1
end Go.Proofs.YteegkblkfdnfiaaGreat

namespace Go.Proofs.YteegkblkfdnfiaaGreat
open Go.RowKit Go.Maps
set_option linter.unusedVariables false
attribute [local go_sem ↓] Go.wp_at_zero Go.wp_at_succ

theorem smallL_snoc {ls : List (List En)} {U : List En} (h : SmallL ls) (hl : U.length ≤ 1000000) (hs : SmallE U) : SmallL (ls ++ [U]) := fun es he => by
  rcases List.mem_append.1 he with he | he
  · exact h es he
  · simp at he; subst he; exact ⟨by omega, hs⟩
end Go.Proofs.YteegkblkfdnfiaaGreat

namespace Go.Proofs.YteegkblkfdnfiaaGreat
set_option linter.unusedVariables false

theorem fold_mem {x : En} : ∀ {us : List Bs} {o : List En}, x ∈ us.foldl fillStep o → x ∈ o ∨ ∃ u ∈ us, x = dirQ u
  | [], o, h => .inl h
  | u :: us, o, h => by
    rcases fold_mem (us := us) (o := fillStep o u) h with h | ⟨v, hv, e⟩
    · unfold fillStep at h
      split at h
      · rcases mem_putE.1 h with h | ⟨h, -⟩
        · exact .inr ⟨u, List.mem_cons_self, h⟩
        · exact .inl h
      · exact .inl h
    · exact .inr ⟨v, List.mem_cons_of_mem _ hv, e⟩
theorem fold_same : ∀ {us : List Bs} {o : List En}, (∀ u ∈ us, findE o u ≠ none) → us.foldl fillStep o = o
  | [], o, h => rfl
  | u :: us, o, h => by
    have h1 : fillStep o u = o := by rw [fillStep, if_neg (h u List.mem_cons_self)]
    rw [List.foldl_cons, h1]
    exact fold_same (fun v hv => h v (List.mem_cons_of_mem _ hv))
theorem find_yes_of {es : List En} {x : En} (hx : x ∈ es) : findE es x.path ≠ none := by
  intro h
  have := List.find?_eq_none.1 h x hx
  simp at this
theorem ups_there {U : List En} (h : Fit U) {q : Bs} (hq : faultP q = 0) (hf : findE U q ≠ none) : ∀ u ∈ above q, findE U u ≠ none := by
  intro u hu
  cases hx : findE U q with
  | none => exact absurd hx hf
  | some x =>
    obtain ⟨hm, hp⟩ := find_mem hx
    rw [above_good hq] at hu
    obtain ⟨h1, h2⟩ := (above_iff hq).1 hu
    obtain ⟨d, hd, hdp, -⟩ := h.up h1 hm (by rw [hp]; exact h2)
    rw [← hdp]
    exact find_yes_of hd
theorem above_ne {q u : Bs} (hq : faultP q = 0) (hu : u ∈ above q) : u ≠ q := by
  intro e
  rw [above_good hq] at hu
  have := below_len ((above_iff hq).1 hu).2
  rw [e] at this
  omega
theorem fill_up {U : List En} (h : Fit U) {e : En} (hp : faultP e.path = 0) : fillS U e = if needsU U e = true then putE (fillS U (dirQ (parentP e.path))) e else putE U e := by
  have hk := above_kid hp rfl
  by_cases h0 : parentP e.path = []
  · rw [if_pos h0] at hk
    rw [fillS, hk, if_neg (by simp [needsU, h0])]
    rfl
  · rw [if_neg h0] at hk
    obtain ⟨hq, -⟩ := parent_above hp h0
    rw [fillS, hk, List.foldl_append, List.foldl_cons, List.foldl_nil]
    by_cases hf : findE U (parentP e.path) = none
    · rw [if_pos (by simp [needsU, h0, hf])]
      have h1 : findE ((above (parentP e.path)).foldl fillStep U) (parentP e.path) = none := find_none (fun x hx hxp => by
        rcases fold_mem hx with hx | ⟨u, hu, rfl⟩
        · exact find_yes_of hx (by rw [hxp]; exact hf)
        · exact above_ne hq hu hxp)
      rw [fillStep, if_pos h1]
      rfl
    · rw [if_neg (by cases hs : findE U (parentP e.path) with
        | none => exact absurd hs hf
        | some x => simp [needsU, hs])]
      rw [fold_same (ups_there h hq hf), fillStep, if_neg hf]
theorem bare_up {U : List En} (h : Fit U) {p : Bs} (hp : faultP p = 0) (h0 : parentP p ≠ []) (hf : findE U (parentP p) = none) : ∀ x ∈ U, x.path ≠ p ∧ belowB x.path p = false := by
  intro x hx
  obtain ⟨hq, hb⟩ := parent_above hp h0
  have key : belowB x.path (parentP p) = true → False := fun hxb => by
    obtain ⟨d, hd, hdp, -⟩ := h.up hq hx hxb
    exact find_yes_of hd (by rw [hdp]; exact hf)
  refine ⟨fun e => key (by rw [e]; exact hb), ?_⟩
  cases hxb : belowB x.path p with
  | false => rfl
  | true => exact absurd (below_trans hxb hb) (fun h => key h)
theorem put_more {D : List En} {e : En} (h : ∀ x ∈ D, x.path ≠ e.path ∧ belowB x.path e.path = false) : (putE D e).length = D.length + 1 := by
  rw [putE_len]
  congr 1
  rw [baseE, List.filter_eq_self.2]
  intro x hx
  obtain ⟨h1, h2⟩ := h x hx
  simp [keepE, h1, h2]
theorem put_code {D : List En} {e : En} (h : Right D) (he : entFault e = 0) (hh : homeP D e.path = true) : (putCodeP D e, putListP D e) = if (putE D e).length ≤ 12 then ((0 : Int), putE D e) else (2, []) := by
  have h1 : putCodeP D e = if 12 < (putE D e).length then 2 else 0 := by rw [putCodeP, if_pos (right_P.2 h), if_pos he, if_pos hh]
  by_cases hl : 12 < (putE D e).length
  · rw [if_neg (by omega), putListP, h1, if_pos hl]; rfl
  · rw [if_pos (by omega), putListP, h1, if_neg hl]; rfl
theorem filR_fill {U : List En} (h : Right U) : ∀ (n : Nat) (e : En), (above e.path).length = n → entFault e = 0 → (∀ u ∈ above e.path, ∀ x, findE U u = some x → dirK x.kind = true) → filR n U e = if (fillS U e).length ≤ 12 then (0, fillS U e) else (2, [])
  | n, e, hn, he, hd => by
    have hp := entFault_zero he
    have hF := (right_fit.1 h).1
    have hfu := fill_up hF hp
    have hk := above_kid hp rfl
    by_cases hu : needsU U e = true
    · rw [if_pos hu] at hfu
      have h0 : parentP e.path ≠ [] := by intro e0; simp [needsU, e0] at hu
      have hf : findE U (parentP e.path) = none := by
        cases hs : findE U (parentP e.path) with
        | none => rfl
        | some x => simp [needsU, hs] at hu
      rw [if_neg h0] at hk
      obtain ⟨hq, hb⟩ := parent_above hp h0
      cases n with
      | zero => exact absurd (parU_none hp hn) h0
      | succ n =>
        have ih := filR_fill h n (dirQ (parentP e.path)) (parN hp h0 hn) (dirE_right hq) (fun u hu2 x hx => hd u (by rw [hk]; exact List.mem_append_left _ hu2) x hx)
        by_cases hl : (fillS U (dirQ (parentP e.path))).length ≤ 12
        · rw [if_pos hl] at ih
          have hz : (filR n U (dirQ (parentP e.path))).1 = 0 := by rw [ih]
          have hR := (filR_zero hz).1
          rw [filR_put hu hz]
          rw [ih] at hR ⊢
          rw [hfu]
          exact put_code hR he (homeP_iff.2 (.inr ⟨dirQ (parentP e.path), mem_putE.2 (.inl rfl), rfl, rfl⟩))
        · rw [if_neg hl] at ih
          have hz : (filR n U (dirQ (parentP e.path))).1 ≠ 0 := by rw [ih]; decide
          rw [filR_bad hu hz, ih, if_neg]
          rw [hfu, put_more]
          · omega
          · intro x hx
            rcases mem_putE.1 hx with rfl | ⟨hx, -⟩
            · exact ⟨parent_ne hp h0, by
                cases hxb : belowB (parentP e.path) e.path with
                | false => exact hxb
                | true => have a1 := below_len hxb; have a2 := below_len hb; omega⟩
            · rcases fold_mem hx with hx | ⟨u, hu2, rfl⟩
              · exact bare_up hF hp h0 hf x hx
              · have hu3 : u ∈ above (parentP e.path) := hu2
                rw [above_good hq] at hu3
                have a1 := below_len ((above_iff hq).1 hu3).2
                have a2 := below_len hb
                refine ⟨fun e1 => ?_, ?_⟩
                · have e2 : u = e.path := e1
                  rw [e2] at a1
                  omega
                · cases hxb : belowB u e.path with
                  | false => exact hxb
                  | true => have a3 := below_len hxb; omega
    · have hu2 : needsU U e = false := by simpa using hu
      rw [if_neg hu] at hfu
      rw [filR_none hu2, hfu]
      refine put_code h he ?_
      by_cases h0 : parentP e.path = []
      · exact homeP_iff.2 (.inl h0)
      · cases hs : findE U (parentP e.path) with
        | none => simp [needsU, h0, hs] at hu
        | some x =>
          obtain ⟨hm, hxp⟩ := find_mem hs
          rw [if_neg h0] at hk
          exact homeP_iff.2 (.inr ⟨x, hm, hxp, hd _ (by rw [hk]; simp) x hs⟩)
end Go.Proofs.YteegkblkfdnfiaaGreat

namespace Go.Proofs.YteegkblkfdnfiaaGreat
set_option linter.unusedVariables false

theorem find_putE (D : List En) (e : En) (q : Bs) : findE (putE D e) q = if q = e.path then some e else if (dirK e.kind || !(belowB q e.path)) = true then findE D q else none := by
  have hb : baseE D e = D.filter fun x => (fun p : Bs => !(decide (p = e.path)) && (dirK e.kind || !(belowB p e.path))) x.path := rfl
  rw [putE, find_putAt (fun x hx => by
    have := (List.mem_filter.1 hx).2
    simp only [keepE, Bool.and_eq_true, Bool.not_eq_true', decide_eq_false_iff_not] at this
    exact this.1)]
  by_cases h : q = e.path
  · rw [if_pos h, if_pos h]
  · rw [if_neg h, if_neg h, hb]
    have h2 := find_filter D (fun p : Bs => !(decide (p = e.path)) && (dirK e.kind || !(belowB p e.path))) q
    rw [h2]
    simp [h]
theorem find_fstep (o : List En) (u q : Bs) : findE (fillStep o u) q = if findE o q = none ∧ q = u then some (dirQ u) else findE o q := by
  unfold fillStep
  by_cases h : findE o u = none
  · rw [if_pos h, find_putE]
    by_cases hq : q = u
    · subst hq; simp [dirQ, h]
    · have : ¬ q = (dirQ u).path := hq
      rw [if_neg this, if_pos (by rfl), if_neg (fun hx => hq hx.2)]
  · rw [if_neg h]
    by_cases hq : q = u
    · subst hq; simp [h]
    · rw [if_neg (fun hx => hq hx.2)]
theorem find_fold (q : Bs) : ∀ (us : List Bs) (o : List En), findE (us.foldl fillStep o) q = if findE o q = none ∧ q ∈ us then some (dirQ q) else findE o q
  | [], o => by simp
  | u :: us, o => by
    rw [List.foldl_cons, find_fold q us, find_fstep]
    by_cases h1 : findE o q = none
    · by_cases h2 : q = u
      · subst h2; simp [h1]
      · simp [h1, h2]
    · simp [h1]
theorem find_fill (U : List En) (e : En) (q : Bs) : findE (fillS U e) q = if q = e.path then some e else if (dirK e.kind || !(belowB q e.path)) = true then (if findE U q = none ∧ q ∈ above e.path then some (dirQ q) else findE U q) else none := by
  rw [fillS, find_putE, find_fold]
theorem ups_dir {T : List En} (h : FitT T) {p : Bs} (hp : faultP p = 0) (hh : homeC T p = 0) : ∀ u ∈ above p, findE T u = some (dirQ u) := by
  have hk := above_kid hp rfl
  intro u hu
  by_cases h0 : parentP p = []
  · rw [if_pos h0] at hk; rw [hk] at hu; simp at hu
  · rw [if_neg h0] at hk
    obtain ⟨hq, -⟩ := parent_above hp h0
    have key : ∀ d ∈ T, dirK d.kind = true → d.path = u → findE T u = some (dirQ u) := fun d hd hdk hdp => by
      have h1 := rise_find h.fit.rise hd
      rw [hdp] at h1
      rw [h1]
      have hup : faultP u = 0 := by rw [← hdp]; exact h.fit.path hd
      have := asT_one (h.fit.ent d hd) (dirE_right hup) hdp hdk rfl
      rw [asT, if_neg (by rw [h.dir hd hdk]; decide)] at this
      exact congrArg some this
    cases hs : findE T (parentP p) with
    | none => rw [homeC_none h0 hs] at hh; cases hh
    | some d =>
      obtain ⟨hd, hdp⟩ := find_mem hs
      have hdk : dirK d.kind = true := by
        have h1 := h.kind d hd
        simp only [homeC, if_neg h0, hs] at hh
        simp only [treeK, decide_eq_true_eq] at h1
        rcases h1 with h1 | h1
        · rw [if_pos h1] at hh; cases hh
        · simp [dirK, h1]
      rw [hk] at hu
      rcases List.mem_append.1 hu with hu | hu
      · rw [above_good hq] at hu
        obtain ⟨h1, h2⟩ := (above_iff hq).1 hu
        obtain ⟨d2, hd2, hdp2, hdk2⟩ := h.fit.up h1 hd (by rw [hdp]; exact h2)
        exact key d2 hd2 hdk2 hdp2
      · simp only [List.mem_singleton] at hu
        exact key d hd hdk (by rw [hdp, hu])
theorem dirs_ok {t U : List En} (ht : FitT t) (hU : Fit U) {p : Bs} (hp : faultP p = 0) (hh : homeC (mergeE t U) p = 0) : ∀ u ∈ above p, ∀ x, findE U u = some x → dirK x.kind = true := by
  intro u hu x hx
  have h1 := ups_dir (merge_fit ht hU) hp hh u hu
  rw [merge_find ht hU, seeT_some hx] at h1
  by_cases h3 : x.kind = 3
  · rw [if_pos h3] at h1; cases h1
  · rw [if_neg h3] at h1
    have h2 : asT x = dirQ u := Option.some.inj h1
    have h4 : (asT x).kind = 2 := by rw [h2]; rfl
    rcases ent_kinds (hU.ent x (find_mem hx).1) with hk | hk | hk | hk
    · rw [asT, if_neg (by rw [hk]; decide), hk] at h4; cases h4
    · simp [dirK, hk]
    · exact absurd hk h3
    · simp [dirK, hk]
theorem fill_right {U : List En} (h : Right U) {e : En} (he : entFault e = 0) (hd : ∀ u ∈ above e.path, ∀ x, findE U u = some x → dirK x.kind = true) (hl : (fillS U e).length ≤ 12) : Right (fillS U e) := by
  have h1 := filR_fill h _ e rfl he hd
  rw [if_pos hl] at h1
  have h2 := (filR_zero (n := (above e.path).length) (U := U) (e := e) (by rw [h1])).1
  rwa [h1] at h2
theorem filU_fill {U : List En} (h : Right U) {e : En} (he : entFault e = 0) (hd : ∀ u ∈ above e.path, ∀ x, findE U u = some x → dirK x.kind = true) : filU U e = if (fillS U e).length ≤ 12 then (0, fillS U e) else (2, []) := filR_fill h _ e rfl he hd
end Go.Proofs.YteegkblkfdnfiaaGreat

namespace Go.Proofs.YteegkblkfdnfiaaGreat
set_option linter.unusedVariables false

theorem fills_wrt {U : List En} (h : Right U) {e : En} (he : entFault e = 0) (hd : ∀ u ∈ above e.path, ∀ x, findE U u = some x → dirK x.kind = true) : FillsO U U e (wrtR U e) (wrtL U e) := by
  have h1 := filU_fill h he hd
  refine ⟨fun hl => ?_, fun hl => ?_⟩
  · rw [if_neg (by omega)] at h1
    exact ⟨by rw [wrtR, h1], by rw [wrtL, h1, if_neg (by decide)]⟩
  · rw [if_pos (by omega)] at h1
    exact ⟨by rw [wrtR, h1], by rw [wrtL, h1, if_pos rfl]⟩
theorem home_seen {T : List En} (h : FitT T) {p : Bs} {e : En} (hf : findE T p = some e) : homeC T p = 0 := by
  obtain ⟨hm, hp⟩ := find_mem hf
  rcases homeP_iff.1 (h.fit.home e hm) with h0 | ⟨d, hd, hdp, hdk⟩
  · rw [hp] at h0; exact homeC_top h0
  · rw [hp] at hdp
    have h1 := rise_find h.fit.rise hd
    rw [hdp] at h1
    by_cases h0 : parentP p = []
    · exact homeC_top h0
    · simp only [homeC, if_neg h0, h1]
      rw [if_neg (by rw [h.dir hd hdk]; decide)]
theorem findCode_iff {U : List En} {p : Bs} (h : Right U) (hp : faultP p = 0) : findCodeP U p = 0 ↔ findE U p ≠ none := by
  rw [findCodeP, if_pos (askP_of h hp)]
  cases findE U p <;> simp
theorem parts_of {ls : List (List En)} {U : List En} {p : Bs} (h : askL (ls ++ [U]) p = 0) : FitT (allE ls) ∧ Right U ∧ faultP p = 0 ∧ allE (ls ++ [U]) = mergeE (allE ls) U := by
  obtain ⟨h4, hR, hp⟩ := askL_right h
  exact ⟨all_fit (rights_fit fun es he => hR es (List.mem_append_left _ he)), hR U (by simp), hp, allE_snoc ls U⟩
end Go.Proofs.YteegkblkfdnfiaaGreat

namespace Go.Proofs.YteegkblkfdnfiaaGreat
set_option linter.unusedVariables false

theorem path_top {p : Bs} (hp : faultP p = 0) : p ≠ [47] := fun e => by rw [e] at hp; revert hp; decide
theorem lov_view {ls : List (List En)} {p : Bs} (hz : layersP ls = 0) (hp : faultP p = 0) : lovC ls p = (match findE (allE ls) p with | some e => if e.kind = 2 then 0 else 9 | none => 4) := by
  rw [lovC, if_neg (path_top hp), (look_all (askL_of hz hp)).1]
  cases findE (allE ls) p with
  | none => rfl
  | some e => simp
theorem wov_view {ls : List (List En)} {p : Bs} (hz : layersP ls = 0) (hp : faultP p = 0) : wovR ls p = wrS (allE ls) p := by
  rw [wovR, wrS, homR_view hz hp, lov_view hz hp]
  by_cases h : homeC (allE ls) p = 0
  · rw [if_pos h, if_pos h]
    cases findE (allE ls) p with
    | none => rfl
    | some e => by_cases hk : e.kind = 2 <;> simp [hk]
  · rw [if_neg h, if_neg h]
theorem mov_view {ls : List (List En)} {p : Bs} (hz : layersP ls = 0) (hp : faultP p = 0) : movR ls p = mkS (allE ls) p := by
  rw [movR, mkS, homR_view hz hp, (look_all (askL_of hz hp)).1]
  by_cases h : homeC (allE ls) p = 0
  · rw [if_pos h, if_pos h]
    cases findE (allE ls) p with
    | none => rfl
    | some e => simp
  · rw [if_neg h, if_neg h]
theorem rov_view {ls : List (List En)} {p : Bs} (hz : layersP ls = 0) (hp : faultP p = 0) : rovR ls p = rmS (allE ls) p := by
  rw [rovR, rmS, (look_all (askL_of hz hp)).1, lovL, lov_view hz hp]
  cases findE (allE ls) p with
  | none => rfl
  | some e =>
    have htq : topQ p = p := by rw [topQ, if_neg (path_top hp)]
    by_cases hk : e.kind = 2
    · simp [hk, htq]
    · simp [hk]
end Go.Proofs.YteegkblkfdnfiaaGreat

namespace Go.Proofs.YteegkblkfdnfiaaGreat
set_option linter.unusedVariables false

theorem bare_at {T : List En} (h : Fit T) {p q : Bs} (hp : faultP p = 0) (hf : ∀ e, findE T p = some e → dirK e.kind = false) (hb : belowB q p = true) : findE T q = none :=
  h.bare_find hp (fun d hd hdp => by
    have h1 := rise_find h.rise hd
    rw [hdp] at h1
    exact hf d h1) hb
theorem dirF_ent {U : List En} {p : Bs} (hp : faultP p = 0) : entFault (dirF U p) = 0 ∧ (dirF U p).path = p ∧ asT (dirF U p) = dirE p ∧ (dirF U p).kind ≠ 3 := by
  have h4 : entFault (⟨p, 4, 0, []⟩ : En) = 0 := by
    rw [entFault_digs (e := ⟨p, 4, 0, []⟩) hp (by simp [formE]) (by simp [sizeE]) (by simp [manyE])]
    rfl
  have key : dirF U p = ⟨p, 4, 0, []⟩ ∨ dirF U p = ⟨p, 2, 0, []⟩ := by
    unfold dirF
    cases findE U p with
    | none => exact .inr rfl
    | some x =>
      by_cases hk : x.kind = 3
      · left; simp [hk]
      · right; simp [hk]
  rcases key with h | h <;> rw [h]
  · exact ⟨h4, rfl, by simp [asT, kindE, dirE], by simp⟩
  · exact ⟨dirE_right hp, rfl, by simp [asT, dirE], by simp⟩
theorem rm_remove {T : List En} {p : Bs} (h : FitT T) (hp : faultP p = 0) : rmS T p = removeC T p := by
  unfold rmS removeC
  cases hs : findE T p with
  | none => rfl
  | some e =>
    have hl : (namesE T p).length = (kidsE T p).length := by simp [namesE]
    simp only []
    by_cases hk : e.kind = 2
    · rw [if_pos hk, hl]
      by_cases h0 : kidsE T p = []
      · simp [h0]
      · rw [if_pos (List.length_pos_iff.2 h0), if_neg h0]
    · rw [if_neg hk, if_pos]
      rw [kids_none]
      intro x hx hxp
      have hkd := h.kind e (find_mem hs).1
      have h0 : parentP x.path ≠ [] := fun e0 => by rw [hxp] at e0; rw [e0] at hp; revert hp; decide
      have hb := (parent_above (h.fit.path hx) h0).2
      rw [hxp] at hb
      have hn := bare_at h.fit hp (fun d hd => by
        rw [hs] at hd
        cases hd
        simp only [treeK, decide_eq_true_eq] at hkd
        rcases hkd with hkd | hkd
        · rw [hkd]; rfl
        · exact absurd hkd hk) hb
      exact find_yes_of hx hn
end Go.Proofs.YteegkblkfdnfiaaGreat

namespace Go.Proofs.YteegkblkfdnfiaaGreat
set_option linter.unusedVariables false

def whiteQ (p : Bs) : En := ⟨p, 3, 0, []⟩
theorem whiteQ_ent {p : Bs} (hp : faultP p = 0) : entFault (whiteQ p) = 0 := by
  rw [entFault_digs (e := whiteQ p) hp (by simp [formE, whiteQ]) (by simp [sizeE, whiteQ]) (by simp [manyE, whiteQ])]
  rfl
theorem fold_rise : ∀ {us : List Bs} {o : List En}, Rise o → Rise (us.foldl fillStep o)
  | [], o, h => h
  | u :: us, o, h => by
    rw [List.foldl_cons]
    refine fold_rise ?_
    unfold fillStep
    split
    · exact rise_putE h
    · exact h
theorem rise_rest {U : List En} (h : Rise U) (p : Bs) : Rise (restE U p true) := h.sublist List.filter_sublist
theorem white_rest {U : List En} (h : Rise U) {p : Bs} (hp : faultP p = 0) : fillS (restE U p true) (whiteQ p) = fillS U (whiteQ p) := by
  refine rise_ext (rise_putE (fold_rise (rise_rest h p))) (rise_putE (fold_rise h)) (fun q => ?_)
  have h1 := find_fill (restE U p true) (whiteQ p) q
  have h2 := find_fill U (whiteQ p) q
  rw [h1, h2]
  by_cases hq : q = (whiteQ p).path
  · rw [if_pos hq, if_pos hq]
  · rw [if_neg hq, if_neg hq]
    cases hb : belowB q (whiteQ p).path with
    | true => rw [if_neg (by simp [whiteQ, dirK]), if_neg (by simp [whiteQ, dirK])]
    | false =>
      have h3 := find_rest U p q
      rw [if_neg (show ¬ q = p from hq), show belowB q p = false from hb] at h3
      simp only [Bool.false_eq_true, if_false] at h3
      rw [h3]
end Go.Proofs.YteegkblkfdnfiaaGreat

