/-
  Texts put together: MntL MntE MntM MntN MntO.
-/
import Derived.Test.YtebgfaohhhgdpaaGreatKMounts22
import Derived.Test.YtebgfaohhhgdpaaGreatKMounts20
import Derived.Test.YtebgfaohhhgdpaaGreatKMounts17
import Derived.Test.YtebgfaohhhgdpaaGreatKMounts21
namespace Go.Proofs.YtebgfaohhhgdpaaGreat
open Go.RowKit Go.Maps
set_option linter.unusedVariables false
attribute [local go_sem ↓] Go.wp_at_zero Go.wp_at_succ

def rmS (T : List En) (p : Bs) : Int := match findE T p with | none => 4 | some e => if e.kind = 2 then (if 0 < (namesE T p).length then 1 else 0) else 0
structure RmS (ls : List (List En)) (T U : List En) (p : Bs) (rep : Int) (V : List En) : Prop where
  no : rmS T p ≠ 0 → rep = rmS T p ∧ V = U
  gone : rmS T p = 0 → findE (allE (ls ++ [restE U p true])) p = none → rep = 0 ∧ V = restE U p true
  white : rmS T p = 0 → findE (allE (ls ++ [restE U p true])) p ≠ none → FillsO U (restE U p true) ⟨p, 3, 0, []⟩ rep V
theorem RmS.stay {ls : List (List En)} {T U : List En} {p : Bs} {q : Int} (h : rmS T p = q) (hq : q ≠ 0) : RmS ls T U p q U := ⟨fun _ => ⟨h.symm, rfl⟩, fun h2 => absurd (h.symm.trans h2) hq, fun h2 => absurd (h.symm.trans h2) hq⟩
theorem right_restE {U : List En} {p : Bs} (h : Right U) (hp : faultP p = 0) : Right (restE U p true) := by
  have h1 := right_rest h hp
  have h2 : restP U p = restE U p true := restP_eq (fun x hx => entFault_zero (h.ent x hx)) hp
  rwa [h2] at h1
set_option maxRecDepth 100000 in
set_option maxHeartbeats 6400000 in
theorem l9Remove_any (a : Option Addr) (c n : Nat) (ls : List (List En)) (u : Option Addr) (uc m : Nat) (U : List En) (p : Bs) (w : World) (h : RdL w a ls) (hn : n = ls.length) (hU : RdE w u U) (hm : m = U.length) (h4 : (ls ++ [U]).length ≤ 4) (hR : ∀ es ∈ ls ++ [U], Right es) (hp : faultP p = 0) (hpl : p.length ≤ 1048576) :
    Calls Tryz.prog 40 #[.slice a n c, .slice u m uc, .string (str p)] w fun r w' => ∃ rep V, RmS ls (allE (ls ++ [U])) U p rep V ∧ ResG 0 rep V w r w' := by
  subst hn
  subst hm
  have hRU : Right U := hR U (by simp)
  have hl4 : ls.length ≤ 4 := by rw [List.length_append] at h4; omega
  have hUl := hRU.len
  have HUs := hide (right_small hRU)
  have HP := hide hp
  have X0 := hide (Box3.new w (.int .i64 0) (.int .i64 0) (.slice none 0 0) 32)
  have B0 := hide (below_alloc w (.cells #[.int .i64 0, .int .i64 0, .slice none 0 0] 32))
  have HA := hide (l9All_any a c ls.length ls u uc U.length U _ (h.below B0.out) rfl (by omega) (hU.below B0.out) rfl)
  have HU := hide hU
  have HST := hide (fun (q : Int) v (hv : Below w.heap.size w v) => l9Reply_any u uc U.length U q v (HU.out.below hv) rfl (by omega) HUs.out)
  have HRR := hide hR
  have H4 := hide h4
  have HRD := hide h
  have hRr := right_restE hRU hp
  have HRS := hide (right_small hRr)
  have hrl := hRr.len
  have H42 := hide (show (ls ++ [restE U p true]).length ≤ 4 by rw [List.length_append] at h4 ⊢; simpa using h4)
  have HR2 := hide (show ∀ es ∈ ls ++ [restE U p true], Right es from fun es he => by
    rcases List.mem_append.1 he with he | he
    · exact hR es (List.mem_append_left _ he)
    · simp at he; subst he; exact hRr)
  have HWO := hide (fun v (hv : Below w.heap.size w v) => l4Without_any u uc U.length U p true v (hU.below hv) rfl (by omega) HUs.out hpl)
  clear hRr
  clear h hU hR hRU hp h4
  obtain ⟨al, hal⟩ : ∃ al, al = ls ++ [U] := ⟨_, rfl⟩
  rw [← hal] at HA HRR H4 ⊢
  have HALL := hide hal
  clear hal
  cases ha : findE (allE al) p with
  | none =>
    have HC := hide (show rmS (allE al) p = 4 by simp [rmS, ha])
    go_enter Tryz.func40, Tryz.ntmps40
    go_wp2_with fail
    refine HA.out.mono ?_
    rintro r w1 ⟨av, cv, rfl, hr1, hb1⟩
    have X1 := hide (X0.out.below hb1)
    have B1 := hide (below_next B0.out hb1)
    have R1 := hide hr1
    have hlt := X1.out.lt
    clear hr1 hb1 HA X0 B0
    have X2 := X1
    have B2 := B1
    have R2 := R1
    clear X1 B1 R1
    have HLK := hide (l8Look_no av cv _ _ p w1 R2.out rfl H4.out HRR.out HP.out hpl ha)
    clear ha
    go_wp2_with fail
    refine HLK.out.mono ?_
    rintro r w3 ⟨rfl, hb3⟩
    have A3 := hide (below_alloc w3 (.cells #[.string ⟨#[]⟩, .int .i64 0, .int .i64 0, .slice none 0 0] 53))
    have B3 := hide (below_next B2.out (below_next hb3 A3.out))
    have X3 := hide (X2.out.below (below_next hb3 A3.out))
    have R3 := hide (R2.out.below (below_next hb3 A3.out))
    obtain ⟨f0, f1, f2, f3⟩ := Four.new w3 (.string ⟨#[]⟩) (.int .i64 0) (.int .i64 0) (.slice none 0 0) 53
    clear hb3 A3 HLK X2 B2 R2
    go_wp2_with fail
    clear f0 f1 f2 f3
    generalize w3.alloc (.cells #[.string ⟨#[]⟩, .int .i64 0, .int .i64 0, .slice none 0 0] 53) = W3 at *
    refine (HST.out 4 W3 B3.out).mono ?_
    rintro r w9 ⟨av9, cv9, rfl, hG9, hb9⟩
    have G9 := hide hG9
    have B9 := hide (below_next B3.out hb9)
    have hl9 := X3.out.lt
    obtain ⟨⟨t0, t1, t2⟩, t3, t4, t5⟩ := X3.out.below hb9
    clear hG9 hb9
    go_wp2_with fail
    exact bodyPost_ret (v := .agg #[.int .i64 0, .int .i64 4, .slice av9 U.length cv9]) (by simp [results, Tryz.results40, go_sem, t0, t1, t2]) rfl ⟨4, U, RmS.stay HC.out (by decide), ResG.of hl9 (Nat.le_refl _) rfl G9.out B9.out⟩
  | some e =>
    by_cases hk : e.kind = 2
    · have hk2 : (e.kind == 2) = true := by simpa using hk
      by_cases hn : 0 < (namesE (allE al) p).length
      · have HC := hide (show rmS (allE al) p = 1 by simp only [rmS, ha]; rw [if_pos hk, if_pos hn])
        have hn2 : (0 : Int) < ((namesE (allE al) p).length : Int) := by omega
        clear hk hn
        go_enter Tryz.func40, Tryz.ntmps40
        go_wp2_with fail
        refine HA.out.mono ?_
        rintro r w1 ⟨av, cv, rfl, hr1, hb1⟩
        have X1 := hide (X0.out.below hb1)
        have B1 := hide (below_next B0.out hb1)
        have R1 := hide hr1
        have hlt := X1.out.lt
        clear hr1 hb1 HA X0 B0
        have X2 := X1
        have B2 := B1
        have R2 := R1
        clear X1 B1 R1
        have HLK := hide (l8Look_yes av cv _ _ p w1 R2.out rfl H4.out HRR.out HP.out hpl e ha)
        clear ha
        go_wp2_with fail
        refine HLK.out.mono ?_
        rintro r w3 ⟨x, xc, rfl, -, hb3⟩
        have A3 := hide (below_alloc w3 (.cells #[.string (str e.path), .int .i64 e.kind, .int .i64 e.size, .slice x e.chunks.length xc] 53))
        have B3 := hide (below_next B2.out (below_next hb3 A3.out))
        have X3 := hide (X2.out.below (below_next hb3 A3.out))
        have R3 := hide (R2.out.below (below_next hb3 A3.out))
        obtain ⟨f0, f1, f2, f3⟩ := Four.new w3 (.string (str e.path)) (.int .i64 e.kind) (.int .i64 e.size) (.slice x e.chunks.length xc) 53
        clear hb3 A3 HLK X2 B2 R2
        go_wp2_with fail
        clear f0 f1 f2 f3
        generalize w3.alloc (.cells #[.string (str e.path), .int .i64 e.kind, .int .i64 e.size, .slice x e.chunks.length xc] 53) = W3 at *
        have HNM := hide (l8Names_any av cv _ _ p W3 R3.out rfl H4.out HRR.out (.inr HP.out) hpl)
        refine HNM.out.mono ?_
        rintro r w4 ⟨nv, nc, rfl, -, hb4⟩
        have X4 := hide (X3.out.below hb4)
        have B4 := hide (below_next B3.out hb4)
        clear hb4 HNM X3 B3 R3
        generalize (namesE (allE al) p).length = NL at *
        go_wp2_with fail
        refine (HST.out 1 w4 B4.out).mono ?_
        rintro r w9 ⟨av9, cv9, rfl, hG9, hb9⟩
        have G9 := hide hG9
        have B9 := hide (below_next B4.out hb9)
        have hl9 := X4.out.lt
        obtain ⟨⟨t0, t1, t2⟩, t3, t4, t5⟩ := X4.out.below hb9
        clear hG9 hb9
        go_wp2_with fail
        exact bodyPost_ret (v := .agg #[.int .i64 0, .int .i64 1, .slice av9 U.length cv9]) (by simp [results, Tryz.results40, go_sem, t0, t1, t2]) rfl ⟨1, U, RmS.stay HC.out (by decide), ResG.of hl9 (Nat.le_refl _) rfl G9.out B9.out⟩
      · have HC := hide (show rmS (allE al) p = 0 by simp only [rmS, ha]; rw [if_pos hk, if_neg hn])
        have hn2 : ¬ (0 : Int) < ((namesE (allE al) p).length : Int) := by omega
        clear hk hn
        cases hs2 : findE (allE (ls ++ [restE U p true])) p with
        | none =>
          have HCP0 : Hid (RmS ls (allE al) U p 0 (restE U p true)) := hide ⟨fun h => absurd HC.out h, fun _ _ => ⟨rfl, rfl⟩, fun _ h => absurd hs2 h⟩
          have HE2 := hide hs2
          clear hs2
          obtain ⟨RU, hRU⟩ : ∃ RU, RU = restE U p true := ⟨_, rfl⟩
          have HCP : Hid (RmS ls (allE al) U p 0 RU) := hide (by rw [hRU]; exact HCP0.out)
          clear HCP0
          rw [← hRU] at HRS hrl H42 HR2 HWO HE2
          clear hRU
          obtain ⟨al2, hal2⟩ : ∃ al2, al2 = ls ++ [RU] := ⟨_, rfl⟩
          rw [← hal2] at H42 HR2 HE2
          have HAL2 := hide hal2
          clear hal2
          go_enter Tryz.func40, Tryz.ntmps40
          go_wp2_with fail
          refine HA.out.mono ?_
          rintro r w1 ⟨av, cv, rfl, hr1, hb1⟩
          have X1 := hide (X0.out.below hb1)
          have B1 := hide (below_next B0.out hb1)
          have R1 := hide hr1
          have hlt := X1.out.lt
          clear hr1 hb1 HA X0 B0
          have X2 := X1
          have B2 := B1
          have R2 := R1
          clear X1 B1 R1
          have HLK := hide (l8Look_yes av cv _ _ p w1 R2.out rfl H4.out HRR.out HP.out hpl e ha)
          clear ha
          go_wp2_with fail
          refine HLK.out.mono ?_
          rintro r w3 ⟨x, xc, rfl, -, hb3⟩
          have A3 := hide (below_alloc w3 (.cells #[.string (str e.path), .int .i64 e.kind, .int .i64 e.size, .slice x e.chunks.length xc] 53))
          have B3 := hide (below_next B2.out (below_next hb3 A3.out))
          have X3 := hide (X2.out.below (below_next hb3 A3.out))
          have R3 := hide (R2.out.below (below_next hb3 A3.out))
          obtain ⟨f0, f1, f2, f3⟩ := Four.new w3 (.string (str e.path)) (.int .i64 e.kind) (.int .i64 e.size) (.slice x e.chunks.length xc) 53
          clear hb3 A3 HLK X2 B2 R2
          go_wp2_with fail
          clear f0 f1 f2 f3
          generalize w3.alloc (.cells #[.string (str e.path), .int .i64 e.kind, .int .i64 e.size, .slice x e.chunks.length xc] 53) = W3 at *
          have HNM := hide (l8Names_any av cv _ _ p W3 R3.out rfl H4.out HRR.out (.inr HP.out) hpl)
          refine HNM.out.mono ?_
          rintro r w4 ⟨nv, nc, rfl, -, hb4⟩
          have X4 := hide (X3.out.below hb4)
          have B4 := hide (below_next B3.out hb4)
          clear hb4 HNM X3 B3 R3
          generalize (namesE (allE al) p).length = NL at *
          go_wp2_with fail
          have hxW := X4.out.lt
          refine (HWO.out w4 B4.out).mono ?_
          rintro r w6 ⟨g6, c6, rfl, hG6, hb6⟩
          have X6 := hide (X4.out.below hb6)
          have B6 := hide (below_next B4.out hb6)
          have G6 := hide (GW.of hG6)
          have HA6 := hide (l9All_any a c ls.length ls (some ⟨g6, 0, none⟩) c6 RU.length RU w6 (HRD.out.below B6.out) rfl (by omega) hG6.rd rfl)
          rw [← HAL2.out] at HA6
          clear hG6 hb6 HWO
          go_wp2_with fail
          refine HA6.out.mono ?_
          rintro r w7 ⟨av7, cv7, rfl, hr7, hb7⟩
          have X7 := hide (X6.out.below hb7)
          have B7 := hide (below_next B6.out hb7)
          have G7 := hide (G6.out.below hb7)
          have HL7 := hide (l8Look_no av7 cv7 al2.length al2 p w7 hr7 rfl H42.out HR2.out HP.out hpl HE2.out)
          clear hr7 hb7 HA6 X6 B6 G6
          go_wp2_with fail
          refine HL7.out.mono ?_
          rintro r w8 ⟨rfl, hb8⟩
          have A8 := hide (below_next hb8 (below_alloc w8 (.cells #[.string ⟨#[]⟩, .int .i64 0, .int .i64 0, .slice none 0 0] 53)))
          have B8 := hide (below_next B7.out A8.out)
          have G8 := hide (G7.out.below A8.out)
          obtain ⟨⟨t0, t1, t2⟩, t3, t4, t5⟩ := X7.out.below A8.out
          clear hb8 A8 HL7 B7 G7
          go_wp2_with fail
          exact bodyPost_ret (v := .agg #[.int .i64 0, .int .i64 0, .slice (some ⟨g6, 0, none⟩) RU.length c6]) (by simp [results, Tryz.results40, go_sem, t0, t1, t2]) rfl ⟨0, RU, HCP.out, ResG.of (b := w.heap.size) hxW (Nat.le_refl _) rfl G8.out B8.out⟩
        | some e2 =>
          obtain ⟨rep, V, hV⟩ := fills_ex U (restE U p true) ⟨p, 3, 0, []⟩
          have HCP : Hid (RmS ls (allE al) U p rep V) := hide ⟨fun h => absurd HC.out h, fun _ h => absurd (hs2.symm.trans h) (by simp), fun _ _ => hV⟩
          have HE2 := hide hs2
          have HV := hide hV
          clear hV hs2
          obtain ⟨RU, hRU⟩ : ∃ RU, RU = restE U p true := ⟨_, rfl⟩
          rw [← hRU] at HRS hrl H42 HR2 HWO HE2 HV
          clear hRU
          obtain ⟨al2, hal2⟩ : ∃ al2, al2 = ls ++ [RU] := ⟨_, rfl⟩
          rw [← hal2] at H42 HR2 HE2
          have HAL2 := hide hal2
          clear hal2
          go_enter Tryz.func40, Tryz.ntmps40
          go_wp2_with fail
          refine HA.out.mono ?_
          rintro r w1 ⟨av, cv, rfl, hr1, hb1⟩
          have X1 := hide (X0.out.below hb1)
          have B1 := hide (below_next B0.out hb1)
          have R1 := hide hr1
          have hlt := X1.out.lt
          clear hr1 hb1 HA X0 B0
          have X2 := X1
          have B2 := B1
          have R2 := R1
          clear X1 B1 R1
          have HLK := hide (l8Look_yes av cv _ _ p w1 R2.out rfl H4.out HRR.out HP.out hpl e ha)
          clear ha
          go_wp2_with fail
          refine HLK.out.mono ?_
          rintro r w3 ⟨x, xc, rfl, -, hb3⟩
          have A3 := hide (below_alloc w3 (.cells #[.string (str e.path), .int .i64 e.kind, .int .i64 e.size, .slice x e.chunks.length xc] 53))
          have B3 := hide (below_next B2.out (below_next hb3 A3.out))
          have X3 := hide (X2.out.below (below_next hb3 A3.out))
          have R3 := hide (R2.out.below (below_next hb3 A3.out))
          obtain ⟨f0, f1, f2, f3⟩ := Four.new w3 (.string (str e.path)) (.int .i64 e.kind) (.int .i64 e.size) (.slice x e.chunks.length xc) 53
          clear hb3 A3 HLK X2 B2 R2
          go_wp2_with fail
          clear f0 f1 f2 f3
          generalize w3.alloc (.cells #[.string (str e.path), .int .i64 e.kind, .int .i64 e.size, .slice x e.chunks.length xc] 53) = W3 at *
          have HNM := hide (l8Names_any av cv _ _ p W3 R3.out rfl H4.out HRR.out (.inr HP.out) hpl)
          refine HNM.out.mono ?_
          rintro r w4 ⟨nv, nc, rfl, -, hb4⟩
          have X4 := hide (X3.out.below hb4)
          have B4 := hide (below_next B3.out hb4)
          clear hb4 HNM X3 B3 R3
          generalize (namesE (allE al) p).length = NL at *
          go_wp2_with fail
          have hxW := X4.out.lt
          refine (HWO.out w4 B4.out).mono ?_
          rintro r w6 ⟨g6, c6, rfl, hG6, hb6⟩
          have X6 := hide (X4.out.below hb6)
          have B6 := hide (below_next B4.out hb6)
          have G6 := hide (GW.of hG6)
          have HA6 := hide (l9All_any a c ls.length ls (some ⟨g6, 0, none⟩) c6 RU.length RU w6 (HRD.out.below B6.out) rfl (by omega) hG6.rd rfl)
          rw [← HAL2.out] at HA6
          clear hG6 hb6 HWO
          go_wp2_with fail
          refine HA6.out.mono ?_
          rintro r w7 ⟨av7, cv7, rfl, hr7, hb7⟩
          have X7 := hide (X6.out.below hb7)
          have B7 := hide (below_next B6.out hb7)
          have G7 := hide (G6.out.below hb7)
          have HL7 := hide (l8Look_yes av7 cv7 al2.length al2 p w7 hr7 rfl H42.out HR2.out HP.out hpl e2 HE2.out)
          clear hr7 hb7 HA6 X6 B6 G6
          go_wp2_with fail
          refine HL7.out.mono ?_
          rintro r w8 ⟨x8, xc8, rfl, -, hb8⟩
          have A8 := hide (below_next hb8 (below_alloc w8 (.cells #[.string (str e2.path), .int .i64 e2.kind, .int .i64 e2.size, .slice x8 e2.chunks.length xc8] 53)))
          have X8 := hide (X7.out.below A8.out)
          have B8 := hide (below_next B7.out A8.out)
          have G8 := hide (G7.out.below A8.out)
          clear hb8 A8 HL7 X7 B7 G7
          go_wp2_with fail
          generalize w8.alloc (.cells #[.string (str e2.path), .int .i64 e2.kind, .int .i64 e2.size, .slice x8 e2.chunks.length xc8] 53) = W8 at *
          have HFL := hide (l9Fill_any u uc U.length U (some ⟨g6, 0, none⟩) c6 RU.length RU ⟨p, 3, 0, []⟩ none 0 0 W8 (HU.out.below B8.out) rfl (by omega) HUs.out G8.out.rd rfl (by omega) HRS.out HP.out rfl (fun hz => absurd rfl hz) hpl (by simp) rep V HV.out)
          refine HFL.out.mono ?_
          rintro r w9 ⟨av9, cv9, rfl, hG9, hb9⟩
          have G9 := hide hG9
          have B9 := hide (below_next B8.out hb9)
          have hl9 := X8.out.lt
          obtain ⟨⟨t0, t1, t2⟩, t3, t4, t5⟩ := X8.out.below hb9
          clear hG9 hb9
          go_wp2_with fail
          exact bodyPost_ret (v := .agg #[.int .i64 0, .int .i64 rep, .slice av9 V.length cv9]) (by simp [results, Tryz.results40, go_sem, t0, t1, t2]) rfl ⟨rep, V, HCP.out, ResG.of hl9 (Nat.le_refl _) rfl G9.out B9.out⟩
    · have HC := hide (show rmS (allE al) p = 0 by simp only [rmS, ha]; rw [if_neg hk])
      have hk2 : (e.kind == 2) = false := by simpa using hk
      clear hk
      cases hs2 : findE (allE (ls ++ [restE U p true])) p with
      | none =>
        have HCP0 : Hid (RmS ls (allE al) U p 0 (restE U p true)) := hide ⟨fun h => absurd HC.out h, fun _ _ => ⟨rfl, rfl⟩, fun _ h => absurd hs2 h⟩
        have HE2 := hide hs2
        clear hs2
        obtain ⟨RU, hRU⟩ : ∃ RU, RU = restE U p true := ⟨_, rfl⟩
        have HCP : Hid (RmS ls (allE al) U p 0 RU) := hide (by rw [hRU]; exact HCP0.out)
        clear HCP0
        rw [← hRU] at HRS hrl H42 HR2 HWO HE2
        clear hRU
        obtain ⟨al2, hal2⟩ : ∃ al2, al2 = ls ++ [RU] := ⟨_, rfl⟩
        rw [← hal2] at H42 HR2 HE2
        have HAL2 := hide hal2
        clear hal2
        go_enter Tryz.func40, Tryz.ntmps40
        go_wp2_with fail
        refine HA.out.mono ?_
        rintro r w1 ⟨av, cv, rfl, hr1, hb1⟩
        have X1 := hide (X0.out.below hb1)
        have B1 := hide (below_next B0.out hb1)
        have R1 := hide hr1
        have hlt := X1.out.lt
        clear hr1 hb1 HA X0 B0
        have X2 := X1
        have B2 := B1
        have R2 := R1
        clear X1 B1 R1
        have HLK := hide (l8Look_yes av cv _ _ p w1 R2.out rfl H4.out HRR.out HP.out hpl e ha)
        clear ha
        go_wp2_with fail
        refine HLK.out.mono ?_
        rintro r w3 ⟨x, xc, rfl, -, hb3⟩
        have A3 := hide (below_alloc w3 (.cells #[.string (str e.path), .int .i64 e.kind, .int .i64 e.size, .slice x e.chunks.length xc] 53))
        have B3 := hide (below_next B2.out (below_next hb3 A3.out))
        have X3 := hide (X2.out.below (below_next hb3 A3.out))
        have R3 := hide (R2.out.below (below_next hb3 A3.out))
        obtain ⟨f0, f1, f2, f3⟩ := Four.new w3 (.string (str e.path)) (.int .i64 e.kind) (.int .i64 e.size) (.slice x e.chunks.length xc) 53
        clear hb3 A3 HLK X2 B2 R2
        go_wp2_with fail
        clear f0 f1 f2 f3
        generalize w3.alloc (.cells #[.string (str e.path), .int .i64 e.kind, .int .i64 e.size, .slice x e.chunks.length xc] 53) = W3 at *
        have hxW := X3.out.lt
        refine (HWO.out W3 B3.out).mono ?_
        rintro r w6 ⟨g6, c6, rfl, hG6, hb6⟩
        have X6 := hide (X3.out.below hb6)
        have B6 := hide (below_next B3.out hb6)
        have G6 := hide (GW.of hG6)
        have HA6 := hide (l9All_any a c ls.length ls (some ⟨g6, 0, none⟩) c6 RU.length RU w6 (HRD.out.below B6.out) rfl (by omega) hG6.rd rfl)
        rw [← HAL2.out] at HA6
        clear hG6 hb6 HWO
        go_wp2_with fail
        refine HA6.out.mono ?_
        rintro r w7 ⟨av7, cv7, rfl, hr7, hb7⟩
        have X7 := hide (X6.out.below hb7)
        have B7 := hide (below_next B6.out hb7)
        have G7 := hide (G6.out.below hb7)
        have HL7 := hide (l8Look_no av7 cv7 al2.length al2 p w7 hr7 rfl H42.out HR2.out HP.out hpl HE2.out)
        clear hr7 hb7 HA6 X6 B6 G6
        go_wp2_with fail
        refine HL7.out.mono ?_
        rintro r w8 ⟨rfl, hb8⟩
        have A8 := hide (below_next hb8 (below_alloc w8 (.cells #[.string ⟨#[]⟩, .int .i64 0, .int .i64 0, .slice none 0 0] 53)))
        have B8 := hide (below_next B7.out A8.out)
        have G8 := hide (G7.out.below A8.out)
        obtain ⟨⟨t0, t1, t2⟩, t3, t4, t5⟩ := X7.out.below A8.out
        clear hb8 A8 HL7 B7 G7
        go_wp2_with fail
        exact bodyPost_ret (v := .agg #[.int .i64 0, .int .i64 0, .slice (some ⟨g6, 0, none⟩) RU.length c6]) (by simp [results, Tryz.results40, go_sem, t0, t1, t2]) rfl ⟨0, RU, HCP.out, ResG.of (b := w.heap.size) hxW (Nat.le_refl _) rfl G8.out B8.out⟩
      | some e2 =>
        obtain ⟨rep, V, hV⟩ := fills_ex U (restE U p true) ⟨p, 3, 0, []⟩
        have HCP : Hid (RmS ls (allE al) U p rep V) := hide ⟨fun h => absurd HC.out h, fun _ h => absurd (hs2.symm.trans h) (by simp), fun _ _ => hV⟩
        have HE2 := hide hs2
        have HV := hide hV
        clear hV hs2
        obtain ⟨RU, hRU⟩ : ∃ RU, RU = restE U p true := ⟨_, rfl⟩
        rw [← hRU] at HRS hrl H42 HR2 HWO HE2 HV
        clear hRU
        obtain ⟨al2, hal2⟩ : ∃ al2, al2 = ls ++ [RU] := ⟨_, rfl⟩
        rw [← hal2] at H42 HR2 HE2
        have HAL2 := hide hal2
        clear hal2
        go_enter Tryz.func40, Tryz.ntmps40
        go_wp2_with fail
        refine HA.out.mono ?_
        rintro r w1 ⟨av, cv, rfl, hr1, hb1⟩
        have X1 := hide (X0.out.below hb1)
        have B1 := hide (below_next B0.out hb1)
        have R1 := hide hr1
        have hlt := X1.out.lt
        clear hr1 hb1 HA X0 B0
        have X2 := X1
        have B2 := B1
        have R2 := R1
        clear X1 B1 R1
        have HLK := hide (l8Look_yes av cv _ _ p w1 R2.out rfl H4.out HRR.out HP.out hpl e ha)
        clear ha
        go_wp2_with fail
        refine HLK.out.mono ?_
        rintro r w3 ⟨x, xc, rfl, -, hb3⟩
        have A3 := hide (below_alloc w3 (.cells #[.string (str e.path), .int .i64 e.kind, .int .i64 e.size, .slice x e.chunks.length xc] 53))
        have B3 := hide (below_next B2.out (below_next hb3 A3.out))
        have X3 := hide (X2.out.below (below_next hb3 A3.out))
        have R3 := hide (R2.out.below (below_next hb3 A3.out))
        obtain ⟨f0, f1, f2, f3⟩ := Four.new w3 (.string (str e.path)) (.int .i64 e.kind) (.int .i64 e.size) (.slice x e.chunks.length xc) 53
        clear hb3 A3 HLK X2 B2 R2
        go_wp2_with fail
        clear f0 f1 f2 f3
        generalize w3.alloc (.cells #[.string (str e.path), .int .i64 e.kind, .int .i64 e.size, .slice x e.chunks.length xc] 53) = W3 at *
        have hxW := X3.out.lt
        refine (HWO.out W3 B3.out).mono ?_
        rintro r w6 ⟨g6, c6, rfl, hG6, hb6⟩
        have X6 := hide (X3.out.below hb6)
        have B6 := hide (below_next B3.out hb6)
        have G6 := hide (GW.of hG6)
        have HA6 := hide (l9All_any a c ls.length ls (some ⟨g6, 0, none⟩) c6 RU.length RU w6 (HRD.out.below B6.out) rfl (by omega) hG6.rd rfl)
        rw [← HAL2.out] at HA6
        clear hG6 hb6 HWO
        go_wp2_with fail
        refine HA6.out.mono ?_
        rintro r w7 ⟨av7, cv7, rfl, hr7, hb7⟩
        have X7 := hide (X6.out.below hb7)
        have B7 := hide (below_next B6.out hb7)
        have G7 := hide (G6.out.below hb7)
        have HL7 := hide (l8Look_yes av7 cv7 al2.length al2 p w7 hr7 rfl H42.out HR2.out HP.out hpl e2 HE2.out)
        clear hr7 hb7 HA6 X6 B6 G6
        go_wp2_with fail
        refine HL7.out.mono ?_
        rintro r w8 ⟨x8, xc8, rfl, -, hb8⟩
        have A8 := hide (below_next hb8 (below_alloc w8 (.cells #[.string (str e2.path), .int .i64 e2.kind, .int .i64 e2.size, .slice x8 e2.chunks.length xc8] 53)))
        have X8 := hide (X7.out.below A8.out)
        have B8 := hide (below_next B7.out A8.out)
        have G8 := hide (G7.out.below A8.out)
        clear hb8 A8 HL7 X7 B7 G7
        go_wp2_with fail
        generalize w8.alloc (.cells #[.string (str e2.path), .int .i64 e2.kind, .int .i64 e2.size, .slice x8 e2.chunks.length xc8] 53) = W8 at *
        have HFL := hide (l9Fill_any u uc U.length U (some ⟨g6, 0, none⟩) c6 RU.length RU ⟨p, 3, 0, []⟩ none 0 0 W8 (HU.out.below B8.out) rfl (by omega) HUs.out G8.out.rd rfl (by omega) HRS.out HP.out rfl (fun hz => absurd rfl hz) hpl (by simp) rep V HV.out)
        refine HFL.out.mono ?_
        rintro r w9 ⟨av9, cv9, rfl, hG9, hb9⟩
        have G9 := hide hG9
        have B9 := hide (below_next B8.out hb9)
        have hl9 := X8.out.lt
        obtain ⟨⟨t0, t1, t2⟩, t3, t4, t5⟩ := X8.out.below hb9
        clear hG9 hb9
        go_wp2_with fail
        exact bodyPost_ret (v := .agg #[.int .i64 0, .int .i64 rep, .slice av9 V.length cv9]) (by simp [results, Tryz.results40, go_sem, t0, t1, t2]) rfl ⟨rep, V, HCP.out, ResG.of hl9 (Nat.le_refl _) rfl G9.out B9.out⟩
end Go.Proofs.YtebgfaohhhgdpaaGreat

namespace Go.Proofs.YtebgfaohhhgdpaaGreat
open Go.RowKit Go.Maps
set_option linter.unusedVariables false
attribute [local go_sem ↓] Go.wp_at_zero Go.wp_at_succ

theorem smallL_snoc {ls : List (List En)} {U : List En} (h : SmallL ls) (hl : U.length ≤ 1000000) (hs : SmallE U) : SmallL (ls ++ [U]) := fun es he => by
  rcases List.mem_append.1 he with he | he
  · exact h es he
  · simp at he; subst he; exact ⟨hl, hs⟩
set_option maxRecDepth 100000 in
set_option maxHeartbeats 1600000 in
theorem implViewOver_any (a : Option Addr) (c n : Nat) (ls : List (List En)) (u : Option Addr) (uc m : Nat) (U : List En) (w : World) (h : RdL w a ls) (hn : n = ls.length) (hl : ls.length ≤ 1000000) (hs : SmallL ls) (hU : RdE w u U) (hm : m = U.length) (hUl : U.length ≤ 1000000) (hUs : SmallE U) :
    Calls Tryz.prog 7 #[.slice a n c, .slice u m uc] w (ResT (malC (ls ++ [U])) 0 (malL (ls ++ [U])) w) := by
  subst hn
  subst hm
  have X0 := hide (Box3.new w (.int .i64 0) (.int .i64 0) (.slice none 0 0) 29)
  have B0 := hide (below_alloc w (.cells #[.int .i64 0, .int .i64 0, .slice none 0 0] 29))
  have HW := hide (withUpper_any a c ls.length ls u uc U.length U _ (h.below B0.out) rfl hl (hU.below B0.out) rfl)
  have HSL := hide (smallL_snoc hs hUl hUs)
  have HLn := hide (show (ls ++ [U]).length ≤ 1048576 by rw [List.length_append]; simp; omega)
  clear h hU hs hUs
  generalize ls ++ [U] = al at *
  go_enter Tryz.func7, Tryz.ntmps7
  go_wp2_with fail
  refine HW.out.mono ?_
  rintro r w1 ⟨av, cv, rfl, hr1, hb1⟩
  have X1 := hide (X0.out.below hb1)
  have B1 := hide (below_next B0.out hb1)
  have HMA := hide (implMergeAll_any av cv al.length al w1 hr1 rfl HLn.out HSL.out)
  have hlt := X1.out.lt
  clear hr1 hb1 HW
  go_wp2_with fail
  refine HMA.out.mono ?_
  rintro r w2 ⟨tv, tc, rfl, hG2, hb2⟩
  have G2 := hide hG2
  have B2 := hide (below_next B1.out hb2)
  obtain ⟨⟨t0, t1, t2⟩, t3, t4, t5⟩ := X1.out.below hb2
  clear hG2 hb2 HMA
  generalize malC al = C at *
  generalize malL al = T at *
  go_wp2_with fail
  exact bodyPost_ret (v := .agg #[.int .i64 C, .int .i64 0, .slice tv T.length tc]) (by simp [results, Tryz.results7, go_sem, t0, t1, t2]) rfl (ResT.of hlt (Nat.le_refl _) rfl G2.out B2.out)
end Go.Proofs.YtebgfaohhhgdpaaGreat

namespace Go.Proofs.YtebgfaohhhgdpaaGreat
open Go.RowKit Go.Maps
set_option linter.unusedVariables false
attribute [local go_sem ↓] Go.wp_at_zero Go.wp_at_succ

structure FaceM (A : Int) (P : Int → List En → Prop) (q rep : Int) (V : List En) : Prop where
  bad : A ≠ 0 → q = A ∧ rep = 0 ∧ V = []
  good : A = 0 → q = 0 ∧ P rep V
theorem FaceM.no {A : Int} {P : Int → List En → Prop} (h : A ≠ 0) : FaceM A P A 0 [] := ⟨fun _ => ⟨rfl, rfl, rfl⟩, fun h2 => absurd h2 h⟩
theorem FaceM.yes {A : Int} {P : Int → List En → Prop} {rep : Int} {V : List En} (h : A = 0) (hP : P rep V) : FaceM A P 0 rep V := ⟨fun h2 => absurd h h2, fun _ => ⟨rfl, hP⟩⟩
set_option maxRecDepth 100000 in
set_option maxHeartbeats 6400000 in
theorem specMakeOver_any (a : Option Addr) (c n : Nat) (ls : List (List En)) (u : Option Addr) (uc m : Nat) (U : List En) (p : Bs) (w : World) (h : RdL w a ls) (hn : n = ls.length) (hl : ls.length ≤ 1000000) (hU : RdE w u U) (hm : m = U.length) (hs : SmallL (ls ++ [U])) (hg : ∀ es ∈ ls ++ [U], layFault es = layFaultP es) (hpl : p.length ≤ 1048576) :
    Calls Tryz.prog 14 #[.slice a n c, .slice u m uc, .string (str p)] w fun r w' => ∃ q rep V, FaceM (askL (ls ++ [U]) p) (MkS (allE (ls ++ [U])) U p) q rep V ∧ ResG q rep V w r w' := by
  subst hn
  subst hm
  have X0 := hide (Box3.new w (.int .i64 0) (.int .i64 0) (.slice none 0 0) 32)
  have B0 := hide (below_alloc w (.cells #[.int .i64 0, .int .i64 0, .slice none 0 0] 32))
  have HAS := hide (l9Asked_any a c ls.length ls u uc U.length U p _ (h.below B0.out) rfl hl (hU.below B0.out) rfl hs hg hpl)
  have HU := hide hU
  have HRD := hide h
  clear h hU hs hg
  obtain ⟨al, hal⟩ : ∃ al, al = ls ++ [U] := ⟨_, rfl⟩
  obtain ⟨PP, hPP⟩ : ∃ PP : Int → List En → Prop, PP = MkS (allE (ls ++ [U])) U p := ⟨_, rfl⟩
  rw [← hPP]
  rw [← hal] at HAS ⊢
  have HALL := hide hal
  have HPP := hide hPP
  clear hal hPP
  by_cases hz : askL al p = 0
  · obtain ⟨h4, hRs, hp⟩ := askL_right hz
    have HC := hide hz
    rw [HALL.out] at h4 hRs
    have HPT := hide (fun v (hv : Below w.heap.size w v) => l9Make_any a c ls.length ls u uc U.length U p v (HRD.out.below hv) rfl (HU.out.below hv) rfl h4 hRs hp hpl)
    rw [hz] at HAS
    clear hz hRs hp h4
    go_enter Tryz.func14, Tryz.ntmps14
    go_wp2_with fail
    refine HAS.out.mono ?_
    rintro r w2 ⟨rfl, hb2⟩
    have X2 := hide (X0.out.below hb2)
    have B2 := hide (below_next B0.out hb2)
    have hl2 := X2.out.lt
    clear hb2 X0 B0 HAS
    go_wp2_with fail
    refine (HPT.out w2 B2.out).mono ?_
    rintro r w3 ⟨rep, V, hV, av3, cv3, rfl, hG3, hb3⟩
    have HV := hide (FaceM.yes (P := PP) HC.out (by rw [HPP.out]; exact hV))
    have G3 := hide hG3
    have B3 := hide (below_next B2.out hb3)
    obtain ⟨⟨t0, t1, t2⟩, t3, t4, t5⟩ := X2.out.below hb3
    clear hV hG3 hb3 HPT
    go_wp2_with fail
    exact bodyPost_ret (v := .agg #[.int .i64 0, .int .i64 rep, .slice av3 V.length cv3]) (by simp [results, Tryz.results14, go_sem, t0, t1, t2]) rfl ⟨0, rep, V, HV.out, ResG.of hl2 (Nat.le_refl _) rfl G3.out B3.out⟩
  · have HZ := hide (FaceM.no (P := PP) hz)
    generalize askL al p = F at *
    have hz2 : (F != 0) = true := by simp; exact hz
    clear hz
    go_enter Tryz.func14, Tryz.ntmps14
    go_wp2_with fail
    refine HAS.out.mono ?_
    rintro r w2 ⟨rfl, hb2⟩
    have B2 := hide (below_next B0.out hb2)
    obtain ⟨⟨t0, t1, t2⟩, t3, t4, t5⟩ := X0.out.below hb2
    clear hb2
    go_wp2_with fail
    exact bodyPost_ret (v := .agg #[.int .i64 F, .int .i64 0, .slice none 0 0]) (by simp [results, Tryz.results14, go_sem, t0, t1, t2]) rfl ⟨F, 0, [], HZ.out, ResG.of (b := w.heap.size) (Nat.lt_succ_self _) (Nat.le_refl _) rfl (GW.nil _ _) B2.out⟩
set_option maxRecDepth 100000 in
set_option maxHeartbeats 6400000 in
theorem specRemoveOver_any (a : Option Addr) (c n : Nat) (ls : List (List En)) (u : Option Addr) (uc m : Nat) (U : List En) (p : Bs) (w : World) (h : RdL w a ls) (hn : n = ls.length) (hl : ls.length ≤ 1000000) (hU : RdE w u U) (hm : m = U.length) (hs : SmallL (ls ++ [U])) (hg : ∀ es ∈ ls ++ [U], layFault es = layFaultP es) (hpl : p.length ≤ 1048576) :
    Calls Tryz.prog 12 #[.slice a n c, .slice u m uc, .string (str p)] w fun r w' => ∃ q rep V, FaceM (askL (ls ++ [U]) p) (RmS ls (allE (ls ++ [U])) U p) q rep V ∧ ResG q rep V w r w' := by
  subst hn
  subst hm
  have X0 := hide (Box3.new w (.int .i64 0) (.int .i64 0) (.slice none 0 0) 32)
  have B0 := hide (below_alloc w (.cells #[.int .i64 0, .int .i64 0, .slice none 0 0] 32))
  have HAS := hide (l9Asked_any a c ls.length ls u uc U.length U p _ (h.below B0.out) rfl hl (hU.below B0.out) rfl hs hg hpl)
  have HU := hide hU
  have HRD := hide h
  clear h hU hs hg
  obtain ⟨al, hal⟩ : ∃ al, al = ls ++ [U] := ⟨_, rfl⟩
  obtain ⟨PP, hPP⟩ : ∃ PP : Int → List En → Prop, PP = RmS ls (allE (ls ++ [U])) U p := ⟨_, rfl⟩
  rw [← hPP]
  rw [← hal] at HAS ⊢
  have HALL := hide hal
  have HPP := hide hPP
  clear hal hPP
  by_cases hz : askL al p = 0
  · obtain ⟨h4, hRs, hp⟩ := askL_right hz
    have HC := hide hz
    rw [HALL.out] at h4 hRs
    have HPT := hide (fun v (hv : Below w.heap.size w v) => l9Remove_any a c ls.length ls u uc U.length U p v (HRD.out.below hv) rfl (HU.out.below hv) rfl h4 hRs hp hpl)
    rw [hz] at HAS
    clear hz hRs hp h4
    go_enter Tryz.func12, Tryz.ntmps12
    go_wp2_with fail
    refine HAS.out.mono ?_
    rintro r w2 ⟨rfl, hb2⟩
    have X2 := hide (X0.out.below hb2)
    have B2 := hide (below_next B0.out hb2)
    have hl2 := X2.out.lt
    clear hb2 X0 B0 HAS
    go_wp2_with fail
    refine (HPT.out w2 B2.out).mono ?_
    rintro r w3 ⟨rep, V, hV, av3, cv3, rfl, hG3, hb3⟩
    have HV := hide (FaceM.yes (P := PP) HC.out (by rw [HPP.out]; exact hV))
    have G3 := hide hG3
    have B3 := hide (below_next B2.out hb3)
    obtain ⟨⟨t0, t1, t2⟩, t3, t4, t5⟩ := X2.out.below hb3
    clear hV hG3 hb3 HPT
    go_wp2_with fail
    exact bodyPost_ret (v := .agg #[.int .i64 0, .int .i64 rep, .slice av3 V.length cv3]) (by simp [results, Tryz.results12, go_sem, t0, t1, t2]) rfl ⟨0, rep, V, HV.out, ResG.of hl2 (Nat.le_refl _) rfl G3.out B3.out⟩
  · have HZ := hide (FaceM.no (P := PP) hz)
    generalize askL al p = F at *
    have hz2 : (F != 0) = true := by simp; exact hz
    clear hz
    go_enter Tryz.func12, Tryz.ntmps12
    go_wp2_with fail
    refine HAS.out.mono ?_
    rintro r w2 ⟨rfl, hb2⟩
    have B2 := hide (below_next B0.out hb2)
    obtain ⟨⟨t0, t1, t2⟩, t3, t4, t5⟩ := X0.out.below hb2
    clear hb2
    go_wp2_with fail
    exact bodyPost_ret (v := .agg #[.int .i64 F, .int .i64 0, .slice none 0 0]) (by simp [results, Tryz.results12, go_sem, t0, t1, t2]) rfl ⟨F, 0, [], HZ.out, ResG.of (b := w.heap.size) (Nat.lt_succ_self _) (Nat.le_refl _) rfl (GW.nil _ _) B2.out⟩
def wovM (ls : List (List En)) (p : Bs) (zs : List Int) : Int := if askL ls p = 0 then (if 24 < zs.length then 2 else 0) else askL ls p
set_option maxRecDepth 100000 in
set_option maxHeartbeats 6400000 in
theorem specWriteOver_any (a : Option Addr) (c n : Nat) (ls : List (List En)) (u : Option Addr) (uc m : Nat) (U : List En) (p : Bs) (zs : List Int) (d : Option Addr) (dn dc : Nat) (w : World) (h : RdL w a ls) (hn : n = ls.length) (hl : ls.length ≤ 1000000) (hU : RdE w u U) (hm : m = U.length) (hs : SmallL (ls ++ [U])) (hg : ∀ es ∈ ls ++ [U], layFault es = layFaultP es) (hpl : p.length ≤ 1048576) (hd : Reads .u8 w d zs) (hdn : dn = zs.length) (hu8 : U8 zs) (hdc : zs.length ≤ dc) (hdl : zs.length ≤ 1048576) :
    Calls Tryz.prog 11 #[.slice a n c, .slice u m uc, .string (str p), .slice d dn dc] w fun r w' => ∃ q rep V, FaceM (wovM (ls ++ [U]) p zs) (WrS (allE (ls ++ [U])) U p (fileE p zs)) q rep V ∧ ResG q rep V w r w' := by
  subst hn
  subst hm
  have X0 := hide (Box3.new w (.int .i64 0) (.int .i64 0) (.slice none 0 0) 32)
  have B0 := hide (below_alloc w (.cells #[.int .i64 0, .int .i64 0, .slice none 0 0] 32))
  have HAS := hide (l9Asked_any a c ls.length ls u uc U.length U p _ (h.below B0.out) rfl hl (hU.below B0.out) rfl hs hg hpl)
  have HU := hide hU
  have HRD := hide h
  subst hdn
  have HD := hide hd
  have HU8 := hide hu8
  clear hd hu8
  clear h hU hs hg
  obtain ⟨al, hal⟩ : ∃ al, al = ls ++ [U] := ⟨_, rfl⟩
  obtain ⟨PP, hPP⟩ : ∃ PP : Int → List En → Prop, PP = WrS (allE (ls ++ [U])) U p (fileE p zs) := ⟨_, rfl⟩
  rw [← hPP]
  rw [← hal] at HAS ⊢
  have HALL := hide hal
  have HPP := hide hPP
  clear hal hPP
  by_cases hz : askL al p = 0
  · obtain ⟨h4, hRs, hp⟩ := askL_right hz
    have HC := hide hz
    rw [HALL.out] at h4 hRs
    rw [hz] at HAS
    by_cases hbig : 24 < zs.length
    · have HZ := hide (FaceM.no (P := PP) (A := wovM al p zs) (by rw [wovM, if_pos hz, if_pos hbig]; decide))
      rw [show wovM al p zs = 2 by rw [wovM, if_pos hz, if_pos hbig]] at HZ ⊢
      have hbi : (24 : Int) < (zs.length : Int) := by omega
      clear hz hRs hp h4 hbig
      go_enter Tryz.func11, Tryz.ntmps11
      go_wp2_with fail
      refine HAS.out.mono ?_
      rintro r w2 ⟨rfl, hb2⟩
      have B2 := hide (below_next B0.out hb2)
      obtain ⟨⟨t0, t1, t2⟩, t3, t4, t5⟩ := X0.out.below hb2
      clear hb2
      go_wp2_with fail
      exact bodyPost_ret (v := .agg #[.int .i64 2, .int .i64 0, .slice none 0 0]) (by simp [results, Tryz.results11, go_sem, t0, t1, t2]) rfl ⟨2, 0, [], HZ.out, ResG.of (b := w.heap.size) (Nat.lt_succ_self _) (Nat.le_refl _) rfl (GW.nil _ _) B2.out⟩
    · have HPT := hide (fun v (hv : Below w.heap.size w v) => l9Write_any a c ls.length ls u uc U.length U p zs d dc v (HRD.out.below hv) rfl (HU.out.below hv) rfl h4 hRs hp hpl (HD.out.below hv) HU8.out hdc (by omega))
      have HC0 := hide (show wovM al p zs = 0 by rw [wovM, if_pos hz, if_neg hbig])
      have hbi : ¬ (24 : Int) < (zs.length : Int) := by omega
      clear hz hRs hp h4 hbig
      go_enter Tryz.func11, Tryz.ntmps11
      go_wp2_with fail
      refine HAS.out.mono ?_
      rintro r w2 ⟨rfl, hb2⟩
      have X2 := hide (X0.out.below hb2)
      have B2 := hide (below_next B0.out hb2)
      have hl2 := X2.out.lt
      clear hb2 X0 B0 HAS
      go_wp2_with fail
      refine (HPT.out w2 B2.out).mono ?_
      rintro r w3 ⟨rep, V, hV, av3, cv3, rfl, hG3, hb3⟩
      have HV := hide (FaceM.yes (P := PP) HC0.out (by rw [HPP.out]; exact hV))
      have G3 := hide hG3
      have B3 := hide (below_next B2.out hb3)
      obtain ⟨⟨t0, t1, t2⟩, t3, t4, t5⟩ := X2.out.below hb3
      clear hV hG3 hb3 HPT
      go_wp2_with fail
      exact bodyPost_ret (v := .agg #[.int .i64 0, .int .i64 rep, .slice av3 V.length cv3]) (by simp [results, Tryz.results11, go_sem, t0, t1, t2]) rfl ⟨0, rep, V, HV.out, ResG.of hl2 (Nat.le_refl _) rfl G3.out B3.out⟩
  · rw [show wovM al p zs = askL al p by rw [wovM, if_neg hz]]
    have HZ := hide (FaceM.no (P := PP) hz)
    generalize askL al p = F at *
    have hz2 : (F != 0) = true := by simp; exact hz
    clear hz
    go_enter Tryz.func11, Tryz.ntmps11
    go_wp2_with fail
    refine HAS.out.mono ?_
    rintro r w2 ⟨rfl, hb2⟩
    have B2 := hide (below_next B0.out hb2)
    obtain ⟨⟨t0, t1, t2⟩, t3, t4, t5⟩ := X0.out.below hb2
    clear hb2
    go_wp2_with fail
    exact bodyPost_ret (v := .agg #[.int .i64 F, .int .i64 0, .slice none 0 0]) (by simp [results, Tryz.results11, go_sem, t0, t1, t2]) rfl ⟨F, 0, [], HZ.out, ResG.of (b := w.heap.size) (Nat.lt_succ_self _) (Nat.le_refl _) rfl (GW.nil _ _) B2.out⟩
set_option maxRecDepth 100000 in
set_option maxHeartbeats 1600000 in
theorem specViewOver_any (a : Option Addr) (c n : Nat) (ls : List (List En)) (u : Option Addr) (uc m : Nat) (U : List En) (w : World) (h : RdL w a ls) (hn : n = ls.length) (hl : ls.length ≤ 1000000) (hU : RdE w u U) (hm : m = U.length) (hs : SmallL (ls ++ [U])) (hg : ∀ es ∈ ls ++ [U], layFault es = layFaultP es) :
    Calls Tryz.prog 13 #[.slice a n c, .slice u m uc] w (ResT (malC (ls ++ [U])) 0 (malL (ls ++ [U])) w) := by
  subst hn
  subst hm
  have X0 := hide (Box3.new w (.int .i64 0) (.int .i64 0) (.slice none 0 0) 29)
  have B0 := hide (below_alloc w (.cells #[.int .i64 0, .int .i64 0, .slice none 0 0] 29))
  have HW := hide (l9All_any a c ls.length ls u uc U.length U _ (h.below B0.out) rfl hl (hU.below B0.out) rfl)
  have HSL := hide hs
  have HG := hide hg
  have HLn := hide (show (ls ++ [U]).length ≤ 1048576 by rw [List.length_append]; simp; omega)
  clear h hU hs hg
  generalize ls ++ [U] = al at *
  go_enter Tryz.func13, Tryz.ntmps13
  go_wp2_with fail
  refine HW.out.mono ?_
  rintro r w1 ⟨av, cv, rfl, hr1, hb1⟩
  have X1 := hide (X0.out.below hb1)
  have B1 := hide (below_next B0.out hb1)
  have HMA := hide (specMergeAll_any av cv al.length al w1 hr1 rfl HLn.out HSL.out HG.out)
  have hlt := X1.out.lt
  clear hr1 hb1 HW
  go_wp2_with fail
  refine HMA.out.mono ?_
  rintro r w2 ⟨tv, tc, rfl, hG2, hb2⟩
  have G2 := hide hG2
  have B2 := hide (below_next B1.out hb2)
  obtain ⟨⟨t0, t1, t2⟩, t3, t4, t5⟩ := X1.out.below hb2
  clear hG2 hb2 HMA
  generalize malC al = C at *
  generalize malL al = T at *
  go_wp2_with fail
  exact bodyPost_ret (v := .agg #[.int .i64 C, .int .i64 0, .slice tv T.length tc]) (by simp [results, Tryz.results13, go_sem, t0, t1, t2]) rfl (ResT.of hlt (Nat.le_refl _) rfl G2.out B2.out)
end Go.Proofs.YtebgfaohhhgdpaaGreat

namespace Go.Proofs.YtebgfaohhhgdpaaGreat
set_option linter.unusedVariables false

theorem fold_mem {x : En} : ∀ {us : List Bs} {o : List En}, x ∈ us.foldl fillStep o → x ∈ o ∨ ∃ u ∈ us, x = dirQ u
  | [], o, h => .inl h
  | u :: us, o, h => by
    rcases fold_mem (us := us) (o := fillStep o u) h with h | ⟨v, hv, e⟩
    · unfold fillStep at h
      split at h
      · rcases mem_putE.1 h with h | ⟨h, -⟩
        · exact .inr ⟨u, List.mem_cons_self, h⟩
        · exact .inl h
      · exact .inl h
    · exact .inr ⟨v, List.mem_cons_of_mem _ hv, e⟩
theorem fold_same : ∀ {us : List Bs} {o : List En}, (∀ u ∈ us, findE o u ≠ none) → us.foldl fillStep o = o
  | [], o, h => rfl
  | u :: us, o, h => by
    have h1 : fillStep o u = o := by rw [fillStep, if_neg (h u List.mem_cons_self)]
    rw [List.foldl_cons, h1]
    exact fold_same (fun v hv => h v (List.mem_cons_of_mem _ hv))
theorem find_yes_of {es : List En} {x : En} (hx : x ∈ es) : findE es x.path ≠ none := by
  intro h
  have := List.find?_eq_none.1 h x hx
  simp at this
theorem ups_there {U : List En} (h : Fit U) {q : Bs} (hq : faultP q = 0) (hf : findE U q ≠ none) : ∀ u ∈ above q, findE U u ≠ none := by
  intro u hu
  cases hx : findE U q with
  | none => exact absurd hx hf
  | some x =>
    obtain ⟨hm, hp⟩ := find_mem hx
    rw [above_good hq] at hu
    obtain ⟨h1, h2⟩ := (above_iff hq).1 hu
    obtain ⟨d, hd, hdp, -⟩ := h.up h1 hm (by rw [hp]; exact h2)
    rw [← hdp]
    exact find_yes_of hd
theorem above_ne {q u : Bs} (hq : faultP q = 0) (hu : u ∈ above q) : u ≠ q := by
  intro e
  rw [above_good hq] at hu
  have := below_len ((above_iff hq).1 hu).2
  rw [e] at this
  omega
theorem fill_up {U : List En} (h : Fit U) {e : En} (hp : faultP e.path = 0) : fillS U e = if needsU U e = true then putE (fillS U (dirQ (parentP e.path))) e else putE U e := by
  have hk := above_kid hp rfl
  by_cases h0 : parentP e.path = []
  · rw [if_pos h0] at hk
    rw [fillS, hk, if_neg (by simp [needsU, h0])]
    rfl
  · rw [if_neg h0] at hk
    obtain ⟨hq, -⟩ := parent_above hp h0
    rw [fillS, hk, List.foldl_append, List.foldl_cons, List.foldl_nil]
    by_cases hf : findE U (parentP e.path) = none
    · rw [if_pos (by simp [needsU, h0, hf])]
      have h1 : findE ((above (parentP e.path)).foldl fillStep U) (parentP e.path) = none := find_none (fun x hx hxp => by
        rcases fold_mem hx with hx | ⟨u, hu, rfl⟩
        · exact find_yes_of hx (by rw [hxp]; exact hf)
        · exact above_ne hq hu hxp)
      rw [fillStep, if_pos h1]
      rfl
    · rw [if_neg (by cases hs : findE U (parentP e.path) with
        | none => exact absurd hs hf
        | some x => simp [needsU, hs])]
      rw [fold_same (ups_there h hq hf), fillStep, if_neg hf]
theorem bare_up {U : List En} (h : Fit U) {p : Bs} (hp : faultP p = 0) (h0 : parentP p ≠ []) (hf : findE U (parentP p) = none) : ∀ x ∈ U, x.path ≠ p ∧ belowB x.path p = false := by
  intro x hx
  obtain ⟨hq, hb⟩ := parent_above hp h0
  have key : belowB x.path (parentP p) = true → False := fun hxb => by
    obtain ⟨d, hd, hdp, -⟩ := h.up hq hx hxb
    exact find_yes_of hd (by rw [hdp]; exact hf)
  refine ⟨fun e => key (by rw [e]; exact hb), ?_⟩
  cases hxb : belowB x.path p with
  | false => rfl
  | true => exact absurd (below_trans hxb hb) (fun h => key h)
theorem put_more {D : List En} {e : En} (h : ∀ x ∈ D, x.path ≠ e.path ∧ belowB x.path e.path = false) : (putE D e).length = D.length + 1 := by
  rw [putE_len]
  congr 1
  rw [baseE, List.filter_eq_self.2]
  intro x hx
  obtain ⟨h1, h2⟩ := h x hx
  simp [keepE, h1, h2]
theorem put_code {D : List En} {e : En} (h : Right D) (he : entFault e = 0) (hh : homeP D e.path = true) : (putCodeP D e, putListP D e) = if (putE D e).length ≤ 12 then ((0 : Int), putE D e) else (2, []) := by
  have h1 : putCodeP D e = if 12 < (putE D e).length then 2 else 0 := by rw [putCodeP, if_pos (right_P.2 h), if_pos he, if_pos hh]
  by_cases hl : 12 < (putE D e).length
  · rw [if_neg (by omega), putListP, h1, if_pos hl]; rfl
  · rw [if_pos (by omega), putListP, h1, if_neg hl]; rfl
theorem filR_fill {U : List En} (h : Right U) : ∀ (n : Nat) (e : En), (above e.path).length = n → entFault e = 0 → (∀ u ∈ above e.path, ∀ x, findE U u = some x → dirK x.kind = true) → filR n U e = if (fillS U e).length ≤ 12 then (0, fillS U e) else (2, [])
  | n, e, hn, he, hd => by
    have hp := entFault_zero he
    have hF := (right_fit.1 h).1
    have hfu := fill_up hF hp
    have hk := above_kid hp rfl
    by_cases hu : needsU U e = true
    · rw [if_pos hu] at hfu
      have h0 : parentP e.path ≠ [] := by intro e0; simp [needsU, e0] at hu
      have hf : findE U (parentP e.path) = none := by
        cases hs : findE U (parentP e.path) with
        | none => rfl
        | some x => simp [needsU, hs] at hu
      rw [if_neg h0] at hk
      obtain ⟨hq, hb⟩ := parent_above hp h0
      cases n with
      | zero => exact absurd (parU_none hp hn) h0
      | succ n =>
        have ih := filR_fill h n (dirQ (parentP e.path)) (parN hp h0 hn) (dirE_right hq) (fun u hu2 x hx => hd u (by rw [hk]; exact List.mem_append_left _ hu2) x hx)
        by_cases hl : (fillS U (dirQ (parentP e.path))).length ≤ 12
        · rw [if_pos hl] at ih
          have hz : (filR n U (dirQ (parentP e.path))).1 = 0 := by rw [ih]
          have hR := (filR_zero hz).1
          rw [filR_put hu hz]
          rw [ih] at hR ⊢
          rw [hfu]
          exact put_code hR he (homeP_iff.2 (.inr ⟨dirQ (parentP e.path), mem_putE.2 (.inl rfl), rfl, rfl⟩))
        · rw [if_neg hl] at ih
          have hz : (filR n U (dirQ (parentP e.path))).1 ≠ 0 := by rw [ih]; decide
          rw [filR_bad hu hz, ih, if_neg]
          rw [hfu, put_more]
          · omega
          · intro x hx
            rcases mem_putE.1 hx with rfl | ⟨hx, -⟩
            · exact ⟨parent_ne hp h0, by
                cases hxb : belowB (parentP e.path) e.path with
                | false => exact hxb
                | true => have a1 := below_len hxb; have a2 := below_len hb; omega⟩
            · rcases fold_mem hx with hx | ⟨u, hu2, rfl⟩
              · exact bare_up hF hp h0 hf x hx
              · have hu3 : u ∈ above (parentP e.path) := hu2
                rw [above_good hq] at hu3
                have a1 := below_len ((above_iff hq).1 hu3).2
                have a2 := below_len hb
                refine ⟨fun e1 => ?_, ?_⟩
                · have e2 : u = e.path := e1
                  rw [e2] at a1
                  omega
                · cases hxb : belowB u e.path with
                  | false => exact hxb
                  | true => have a3 := below_len hxb; omega
    · have hu2 : needsU U e = false := by simpa using hu
      rw [if_neg hu] at hfu
      rw [filR_none hu2, hfu]
      refine put_code h he ?_
      by_cases h0 : parentP e.path = []
      · exact homeP_iff.2 (.inl h0)
      · cases hs : findE U (parentP e.path) with
        | none => simp [needsU, h0, hs] at hu
        | some x =>
          obtain ⟨hm, hxp⟩ := find_mem hs
          rw [if_neg h0] at hk
          exact homeP_iff.2 (.inr ⟨x, hm, hxp, hd _ (by rw [hk]; simp) x hs⟩)
end Go.Proofs.YtebgfaohhhgdpaaGreat

namespace Go.Proofs.YtebgfaohhhgdpaaGreat
set_option linter.unusedVariables false

theorem find_putE (D : List En) (e : En) (q : Bs) : findE (putE D e) q = if q = e.path then some e else if (dirK e.kind || !(belowB q e.path)) = true then findE D q else none := by
  have hb : baseE D e = D.filter fun x => (fun p : Bs => !(decide (p = e.path)) && (dirK e.kind || !(belowB p e.path))) x.path := rfl
  rw [putE, find_putAt (fun x hx => by
    have := (List.mem_filter.1 hx).2
    simp only [keepE, Bool.and_eq_true, Bool.not_eq_true', decide_eq_false_iff_not] at this
    exact this.1)]
  by_cases h : q = e.path
  · rw [if_pos h, if_pos h]
  · rw [if_neg h, if_neg h, hb]
    have h2 := find_filter D (fun p : Bs => !(decide (p = e.path)) && (dirK e.kind || !(belowB p e.path))) q
    rw [h2]
    simp [h]
theorem find_fstep (o : List En) (u q : Bs) : findE (fillStep o u) q = if findE o q = none ∧ q = u then some (dirQ u) else findE o q := by
  unfold fillStep
  by_cases h : findE o u = none
  · rw [if_pos h, find_putE]
    by_cases hq : q = u
    · subst hq; simp [dirQ, h]
    · have : ¬ q = (dirQ u).path := hq
      rw [if_neg this, if_pos (by rfl), if_neg (fun hx => hq hx.2)]
  · rw [if_neg h]
    by_cases hq : q = u
    · subst hq; simp [h]
    · rw [if_neg (fun hx => hq hx.2)]
theorem find_fold (q : Bs) : ∀ (us : List Bs) (o : List En), findE (us.foldl fillStep o) q = if findE o q = none ∧ q ∈ us then some (dirQ q) else findE o q
  | [], o => by simp
  | u :: us, o => by
    rw [List.foldl_cons, find_fold q us, find_fstep]
    by_cases h1 : findE o q = none
    · by_cases h2 : q = u
      · subst h2; simp [h1]
      · simp [h1, h2]
    · simp [h1]
theorem find_fill (U : List En) (e : En) (q : Bs) : findE (fillS U e) q = if q = e.path then some e else if (dirK e.kind || !(belowB q e.path)) = true then (if findE U q = none ∧ q ∈ above e.path then some (dirQ q) else findE U q) else none := by
  rw [fillS, find_putE, find_fold]
theorem ups_dir {T : List En} (h : FitT T) {p : Bs} (hp : faultP p = 0) (hh : homeC T p = 0) : ∀ u ∈ above p, findE T u = some (dirQ u) := by
  have hk := above_kid hp rfl
  intro u hu
  by_cases h0 : parentP p = []
  · rw [if_pos h0] at hk; rw [hk] at hu; simp at hu
  · rw [if_neg h0] at hk
    obtain ⟨hq, -⟩ := parent_above hp h0
    have key : ∀ d ∈ T, dirK d.kind = true → d.path = u → findE T u = some (dirQ u) := fun d hd hdk hdp => by
      have h1 := rise_find h.fit.rise hd
      rw [hdp] at h1
      rw [h1]
      have hup : faultP u = 0 := by rw [← hdp]; exact h.fit.path hd
      have := asT_one (h.fit.ent d hd) (dirE_right hup) hdp hdk rfl
      rw [asT, if_neg (by rw [h.dir hd hdk]; decide)] at this
      exact congrArg some this
    cases hs : findE T (parentP p) with
    | none => rw [homeC_none h0 hs] at hh; cases hh
    | some d =>
      obtain ⟨hd, hdp⟩ := find_mem hs
      have hdk : dirK d.kind = true := by
        have h1 := h.kind d hd
        simp only [homeC, if_neg h0, hs] at hh
        simp only [treeK, decide_eq_true_eq] at h1
        rcases h1 with h1 | h1
        · rw [if_pos h1] at hh; cases hh
        · simp [dirK, h1]
      rw [hk] at hu
      rcases List.mem_append.1 hu with hu | hu
      · rw [above_good hq] at hu
        obtain ⟨h1, h2⟩ := (above_iff hq).1 hu
        obtain ⟨d2, hd2, hdp2, hdk2⟩ := h.fit.up h1 hd (by rw [hdp]; exact h2)
        exact key d2 hd2 hdk2 hdp2
      · simp only [List.mem_singleton] at hu
        exact key d hd hdk (by rw [hdp, hu])
theorem dirs_ok {t U : List En} (ht : FitT t) (hU : Fit U) {p : Bs} (hp : faultP p = 0) (hh : homeC (mergeE t U) p = 0) : ∀ u ∈ above p, ∀ x, findE U u = some x → dirK x.kind = true := by
  intro u hu x hx
  have h1 := ups_dir (merge_fit ht hU) hp hh u hu
  rw [merge_find ht hU, seeT_some hx] at h1
  by_cases h3 : x.kind = 3
  · rw [if_pos h3] at h1; cases h1
  · rw [if_neg h3] at h1
    have h2 : asT x = dirQ u := Option.some.inj h1
    have h4 : (asT x).kind = 2 := by rw [h2]; rfl
    rcases ent_kinds (hU.ent x (find_mem hx).1) with hk | hk | hk | hk
    · rw [asT, if_neg (by rw [hk]; decide), hk] at h4; cases h4
    · simp [dirK, hk]
    · exact absurd hk h3
    · simp [dirK, hk]
theorem fill_right {U : List En} (h : Right U) {e : En} (he : entFault e = 0) (hd : ∀ u ∈ above e.path, ∀ x, findE U u = some x → dirK x.kind = true) (hl : (fillS U e).length ≤ 12) : Right (fillS U e) := by
  have h1 := filR_fill h _ e rfl he hd
  rw [if_pos hl] at h1
  have h2 := (filR_zero (n := (above e.path).length) (U := U) (e := e) (by rw [h1])).1
  rwa [h1] at h2
theorem filU_fill {U : List En} (h : Right U) {e : En} (he : entFault e = 0) (hd : ∀ u ∈ above e.path, ∀ x, findE U u = some x → dirK x.kind = true) : filU U e = if (fillS U e).length ≤ 12 then (0, fillS U e) else (2, []) := filR_fill h _ e rfl he hd
theorem hid_fill {U : List En} {e : En} {q : Bs} (hp : faultP e.path = 0) (hb : belowB q e.path = false) : hid (fillS U e) q = hid U q := by
  rw [Bool.eq_iff_iff, hid_iff, hid_iff]
  constructor
  · rintro ⟨x, hx, hk, hxb⟩
    rcases mem_putE.1 hx with rfl | ⟨hx, -⟩
    · rw [hb] at hxb; cases hxb
    · rcases fold_mem hx with hx | ⟨u, hu, rfl⟩
      · exact ⟨x, hx, hk, hxb⟩
      · exact absurd rfl hk
  · rintro ⟨x, hx, hk, hxb⟩
    have hne : x.path ≠ e.path := fun e1 => by rw [e1] at hxb; rw [hb] at hxb; cases hxb
    have hnb : belowB x.path e.path = false := by
      cases h1 : belowB x.path e.path with
      | false => rfl
      | true => rw [below_trans hxb h1] at hb; cases hb
    refine ⟨x, mem_putE.2 (.inr ⟨?_, by simp [keepE, hne, hnb]⟩), hk, hxb⟩
    have : ∀ (us : List Bs) (o : List En), (∀ u ∈ us, findE o u = none → x.path ≠ u) → x ∈ o → x ∈ us.foldl fillStep o := by
      intro us
      induction us with
      | nil => intro o _ h; exact h
      | cons u us ih =>
        intro o hn h
        rw [List.foldl_cons]
        have hin : x ∈ fillStep o u := by
          unfold fillStep
          split
          · rename_i h1
            exact mem_putE.2 (.inr ⟨h, by simp [keepE, dirQ, hn u List.mem_cons_self h1, dirK]⟩)
          · exact h
        exact ih _ (fun v hv h2 e1 => by rw [← e1] at h2; exact find_yes_of hin h2) hin
    exact this _ _ (fun u hu h1 e1 => by rw [← e1] at h1; exact find_yes_of hx h1) hx
theorem view_out {t U : List En} (ht : FitT t) (hU : Right U) {e : En} (he : entFault e = 0) (hh : homeC (mergeE t U) e.path = 0) (hl : (fillS U e).length ≤ 12) {q : Bs} (hq : q ≠ e.path) (hb : belowB q e.path = false) : findE (mergeE t (fillS U e)) q = findE (mergeE t U) q := by
  have hp := entFault_zero he
  have hF := (right_fit.1 hU).1
  have hd := dirs_ok ht hF hp hh
  have hR := fill_right hU he hd hl
  rw [merge_find ht (right_fit.1 hR).1]
  have hf := find_fill U e q
  rw [if_neg hq, if_pos (by simp [hb])] at hf
  by_cases h1 : findE U q = none
  · by_cases h2 : q ∈ above e.path
    · rw [if_pos ⟨h1, h2⟩] at hf
      rw [seeT_some hf, if_neg (by simp [dirQ]), ups_dir (merge_fit ht hF) hp hh q h2]
      rfl
    · rw [if_neg (fun h => h2 h.2)] at hf
      rw [seeT_none (hf.trans h1), merge_find ht hF, seeT_none h1, hid_fill hp hb]
  · rw [if_neg (fun h => h1 h.1)] at hf
    cases hx : findE U q with
    | none => exact absurd hx h1
    | some x => rw [seeT_some (hf.trans hx), merge_find ht hF, seeT_some hx]
theorem view_at {t U : List En} (ht : FitT t) (hU : Right U) {e : En} (he : entFault e = 0) (hh : homeC (mergeE t U) e.path = 0) (hl : (fillS U e).length ≤ 12) : findE (mergeE t (fillS U e)) e.path = if e.kind = 3 then none else some (asT e) := by
  have hp := entFault_zero he
  have hF := (right_fit.1 hU).1
  have hR := fill_right hU he (dirs_ok ht hF hp hh) hl
  rw [merge_find ht (right_fit.1 hR).1]
  exact seeT_some (by rw [find_fill, if_pos rfl])
theorem view_low {t U : List En} (ht : FitT t) (hU : Right U) {e : En} (he : entFault e = 0) (hh : homeC (mergeE t U) e.path = 0) (hl : (fillS U e).length ≤ 12) {q : Bs} (hk : e.kind ≠ 2) (hn : dirK e.kind = true → findE U q = none) (hb : belowB q e.path = true) : findE (mergeE t (fillS U e)) q = none := by
  have hp := entFault_zero he
  have hF := (right_fit.1 hU).1
  have hR := fill_right hU he (dirs_ok ht hF hp hh) hl
  rw [merge_find ht (right_fit.1 hR).1]
  have hne : q ≠ e.path := fun e1 => by have := below_len hb; rw [e1] at this; omega
  have hna : q ∉ above e.path := fun hx => by rw [below_not hp hx] at hb; cases hb
  have hf := find_fill U e q
  rw [if_neg hne] at hf
  have hz : findE (fillS U e) q = none := by
    rw [hf]
    by_cases hd : dirK e.kind = true
    · rw [if_pos (by simp [hd]), if_neg (fun h => hna h.2)]; exact hn hd
    · rw [if_neg (by simp [hd, hb])]
  have hhid : hid (fillS U e) q = true := hid_iff.2 ⟨e, mem_putE.2 (.inl rfl), hk, hb⟩
  rw [seeT_none hz, if_pos hhid]
theorem view_dir {t U : List En} (ht : FitT t) (hU : Right U) {e : En} (he : entFault e = 0) (hh : homeC (mergeE t U) e.path = 0) (hl : (fillS U e).length ≤ 12) {q : Bs} (hk : e.kind = 2) (hn : findE U e.path = none) (hb : belowB q e.path = true) : findE (mergeE t (fillS U e)) q = findE (mergeE t U) q := by
  have hp := entFault_zero he
  have hF := (right_fit.1 hU).1
  have hR := fill_right hU he (dirs_ok ht hF hp hh) hl
  rw [merge_find ht (right_fit.1 hR).1, merge_find ht hF]
  have hne : q ≠ e.path := fun e1 => by have := below_len hb; rw [e1] at this; omega
  have hna : q ∉ above e.path := fun hx => by rw [below_not hp hx] at hb; cases hb
  have hf := find_fill U e q
  rw [if_neg hne, if_pos (by simp [dirK, hk]), if_neg (fun h => hna h.2)] at hf
  have hz : findE U q = none := hF.bare_find hp (fun d hd hdp => absurd (find_yes_of hd) (by rw [hdp]; simp [hn])) hb
  rw [seeT_none (hf.trans hz), seeT_none hz]
  have : hid (fillS U e) q = hid U q := by
    rw [Bool.eq_iff_iff, hid_iff, hid_iff]
    constructor
    · rintro ⟨x, hx, hk2, hxb⟩
      rcases mem_putE.1 hx with rfl | ⟨hx, -⟩
      · exact absurd hk hk2
      · rcases fold_mem hx with hx | ⟨u, hu, rfl⟩
        · exact ⟨x, hx, hk2, hxb⟩
        · exact absurd rfl hk2
    · rintro ⟨x, hx, hk2, hxb⟩
      have h1 := find_fill U e x.path
      have hxn : x.path ≠ e.path := fun e1 => find_yes_of hx (by rw [e1]; exact hn)
      rw [if_neg hxn, if_pos (by simp [dirK, hk]), if_neg (fun h => find_yes_of hx h.1), rise_find hF.rise hx] at h1
      exact ⟨x, (find_mem h1).1, hk2, hxb⟩
  rw [this]
end Go.Proofs.YtebgfaohhhgdpaaGreat

