/-
  Texts put together: MntM MntN MntO MntP MntR MntS DrawF MntU MntV OvrQ.
-/
import Derived.Test.YtebgfaohhhgdpaaGreatKCopies19
import Derived.Test.YtebgfaohhhgdpaaGreatKCopies14
import Derived.Test.YtebgfaohhhgdpaaGreatKCopies18
import Derived.Test.YtebgfaohhhgdpaaGreatKCopies17
import Derived.Test.YtebgfaohhhgdpaaGreatKCopies13
import Derived.Test.YtebgfaohhhgdpaaGreatKCopies10
namespace Go.Proofs.YtebgfaohhhgdpaaGreat
open Go.RowKit Go.Maps
set_option linter.unusedVariables false
attribute [local go_sem ↓] Go.wp_at_zero Go.wp_at_succ

/-- A face: a code where what is asked has a fault, else what the part behind it tells. -/
structure FaceM (A : Int) (P : Int → List En → Prop) (q rep : Int) (V : List En) : Prop where
  bad : A ≠ 0 → q = A ∧ rep = 0 ∧ V = []
  good : A = 0 → q = 0 ∧ P rep V
theorem FaceM.no {A : Int} {P : Int → List En → Prop} (h : A ≠ 0) : FaceM A P A 0 [] := ⟨fun _ => ⟨rfl, rfl, rfl⟩, fun h2 => absurd h2 h⟩
theorem FaceM.yes {A : Int} {P : Int → List En → Prop} {rep : Int} {V : List En} (h : A = 0) (hP : P rep V) : FaceM A P 0 rep V := ⟨fun h2 => absurd h h2, fun _ => ⟨rfl, hP⟩⟩
set_option maxRecDepth 100000 in
set_option maxHeartbeats 6400000 in
theorem specMakeOver_any (a : Option Addr) (c n : Nat) (ls : List (List En)) (u : Option Addr) (uc m : Nat) (U : List En) (p : Bs) (w : World) (h : RdL w a ls) (hn : n = ls.length) (hl : ls.length ≤ 1000000) (hU : RdE w u U) (hm : m = U.length) (hs : SmallL (ls ++ [U])) (hg : ∀ es ∈ ls ++ [U], layFault es = layFaultP es) (hpl : p.length ≤ 1048576) :
    Calls Tryz.prog 14 #[.slice a n c, .slice u m uc, .string (str p)] w fun r w' => ∃ q rep V, FaceM (askL (ls ++ [U]) p) (MkS (allE (ls ++ [U])) U p) q rep V ∧ ResG q rep V w r w' := by
  subst hn
  subst hm
  have X0 := hide (Box3.new w (.int .i64 0) (.int .i64 0) (.slice none 0 0) 32)
  have B0 := hide (below_alloc w (.cells #[.int .i64 0, .int .i64 0, .slice none 0 0] 32))
  have HAS := hide (l9Asked_any a c ls.length ls u uc U.length U p _ (h.below B0.out) rfl hl (hU.below B0.out) rfl hs hg hpl)
  have HU := hide hU
  have HRD := hide h
  clear h hU hs hg
  obtain ⟨al, hal⟩ : ∃ al, al = ls ++ [U] := ⟨_, rfl⟩
  obtain ⟨PP, hPP⟩ : ∃ PP : Int → List En → Prop, PP = MkS (allE (ls ++ [U])) U p := ⟨_, rfl⟩
  rw [← hPP]
  rw [← hal] at HAS ⊢
  have HALL := hide hal
  have HPP := hide hPP
  clear hal hPP
  by_cases hz : askL al p = 0
  · obtain ⟨h4, hRs, hp⟩ := askL_right hz
    have HC := hide hz
    rw [HALL.out] at h4 hRs
    have HPT := hide (fun v (hv : Below w.heap.size w v) => l9Make_any a c ls.length ls u uc U.length U p v (HRD.out.below hv) rfl (HU.out.below hv) rfl h4 hRs hp hpl)
    rw [hz] at HAS
    clear hz hRs hp h4
    go_enter Tryz.func14, Tryz.ntmps14
    go_wp2_with fail
    refine HAS.out.mono ?_
    rintro r w2 ⟨rfl, hb2⟩
    have X2 := hide (X0.out.below hb2)
    have B2 := hide (below_next B0.out hb2)
    have hl2 := X2.out.lt
    clear hb2 X0 B0 HAS
    go_wp2_with fail
    refine (HPT.out w2 B2.out).mono ?_
    rintro r w3 ⟨rep, V, hV, av3, cv3, rfl, hG3, hb3⟩
    have HV := hide (FaceM.yes (P := PP) HC.out (by rw [HPP.out]; exact hV))
    have G3 := hide hG3
    have B3 := hide (below_next B2.out hb3)
    obtain ⟨⟨t0, t1, t2⟩, t3, t4, t5⟩ := X2.out.below hb3
    clear hV hG3 hb3 HPT
    go_wp2_with fail
    exact bodyPost_ret (v := .agg #[.int .i64 0, .int .i64 rep, .slice av3 V.length cv3]) (by simp [results, Tryz.results14, go_sem, t0, t1, t2]) rfl ⟨0, rep, V, HV.out, ResG.of hl2 (Nat.le_refl _) rfl G3.out B3.out⟩
  · have HZ := hide (FaceM.no (P := PP) hz)
    generalize askL al p = F at *
    have hz2 : (F != 0) = true := by simp; exact hz
    clear hz
    go_enter Tryz.func14, Tryz.ntmps14
    go_wp2_with fail
    refine HAS.out.mono ?_
    rintro r w2 ⟨rfl, hb2⟩
    have B2 := hide (below_next B0.out hb2)
    obtain ⟨⟨t0, t1, t2⟩, t3, t4, t5⟩ := X0.out.below hb2
    clear hb2
    go_wp2_with fail
    exact bodyPost_ret (v := .agg #[.int .i64 F, .int .i64 0, .slice none 0 0]) (by simp [results, Tryz.results14, go_sem, t0, t1, t2]) rfl ⟨F, 0, [], HZ.out, ResG.of (b := w.heap.size) (Nat.lt_succ_self _) (Nat.le_refl _) rfl (GW.nil _ _) B2.out⟩
/-- What a copy tells, by the view. -/
structure CpS (T U : List En) (p : Bs) (rep : Int) (V : List En) : Prop where
  none : findE T p = none → rep = 4 ∧ V = U
  there : findE T p ≠ Option.none → findE U p ≠ Option.none → rep = 0 ∧ V = U
  copy : ∀ e, findE T p = some e → findE U p = Option.none → FillsO U U e rep V
set_option maxRecDepth 100000 in
set_option maxHeartbeats 6400000 in
theorem specCopyUp_any (a : Option Addr) (c n : Nat) (ls : List (List En)) (u : Option Addr) (uc m : Nat) (U : List En) (p : Bs) (w : World) (h : RdL w a ls) (hn : n = ls.length) (hl : ls.length ≤ 1000000) (hU : RdE w u U) (hm : m = U.length) (hs : SmallL (ls ++ [U])) (hg : ∀ es ∈ ls ++ [U], layFault es = layFaultP es) (hpl : p.length ≤ 1048576) :
    Calls Tryz.prog 22 #[.slice a n c, .slice u m uc, .string (str p)] w fun r w' => ∃ q rep V, FaceM (askL (ls ++ [U]) p) (CpS (allE (ls ++ [U])) U p) q rep V ∧ ResG q rep V w r w' := by
  subst hn
  subst hm
  have X0 := hide (Box3.new w (.int .i64 0) (.int .i64 0) (.slice none 0 0) 32)
  have B0 := hide (below_alloc w (.cells #[.int .i64 0, .int .i64 0, .slice none 0 0] 32))
  have HAS := hide (l9Asked_any a c ls.length ls u uc U.length U p _ (h.below B0.out) rfl hl (hU.below B0.out) rfl hs hg hpl)
  have HU := hide hU
  have HRD := hide h
  clear h hU hs hg
  obtain ⟨al, hal⟩ : ∃ al, al = ls ++ [U] := ⟨_, rfl⟩
  obtain ⟨PP, hPP⟩ : ∃ PP : Int → List En → Prop, PP = CpS (allE (ls ++ [U])) U p := ⟨_, rfl⟩
  rw [← hPP]
  rw [← hal] at HAS ⊢
  have HALL := hide hal
  have HPP := hide hPP
  clear hal hPP
  by_cases hz : askL al p = 0
  · obtain ⟨h4, hRs, hp⟩ := askL_right hz
    have HC := hide hz
    have HRU := hide (show Right U from hRs U (by rw [HALL.out]; simp))
    have HUs := hide (right_small HRU.out)
    have hUl := HRU.out.len
    have HST := hide (fun (q : Int) v (hv : Below w.heap.size w v) => l9Reply_any u uc U.length U q v (HU.out.below hv) rfl (by omega) HUs.out)
    have H4 := hide h4
    have HRR := hide hRs
    have HP := hide hp
    rw [hz] at HAS
    clear hz hRs hp h4
    cases ha : findE (allE al) p with
    | none =>
      have HF : Hid (FaceM (askL al p) PP 0 4 U) := hide (FaceM.yes HC.out (by rw [HPP.out, ← HALL.out]; exact ⟨fun _ => ⟨rfl, rfl⟩, fun h => absurd ha h, fun e h => (by rw [ha] at h; cases h)⟩))
      go_enter Tryz.func22, Tryz.ntmps22
      go_wp2_with fail
      refine HAS.out.mono ?_
      rintro r w1 ⟨rfl, hb1⟩
      have X1 := hide (X0.out.below hb1)
      have B1 := hide (below_next B0.out hb1)
      have HA := hide (l9All_any a c ls.length ls u uc U.length U w1 (HRD.out.below B1.out) rfl hl (HU.out.below B1.out) rfl)
      rw [← HALL.out] at HA
      clear hb1 X0 B0 HAS
      go_wp2_with fail
      refine HA.out.mono ?_
      rintro r w2 ⟨av, cv, rfl, hr2, hb2⟩
      have X2 := hide (X1.out.below hb2)
      have B2 := hide (below_next B1.out hb2)
      have R2 := hide hr2
      clear hr2 hb2 X1 B1 HA
      have HLK := hide (l8Look_no av cv _ _ p w2 R2.out rfl H4.out HRR.out HP.out hpl ha)
      clear ha
      go_wp2_with fail
      refine HLK.out.mono ?_
      rintro r w3 ⟨rfl, hb3⟩
      have A3 := hide (below_next hb3 (below_alloc w3 (.cells #[.string ⟨#[]⟩, .int .i64 0, .int .i64 0, .slice none 0 0] 53)))
      have B3 := hide (below_next B2.out A3.out)
      have X3 := hide (X2.out.below A3.out)
      clear hb3 A3 HLK X2 B2 R2
      go_wp2_with fail
      generalize w3.alloc (.cells #[.string ⟨#[]⟩, .int .i64 0, .int .i64 0, .slice none 0 0] 53) = W3 at *
      refine (HST.out 4 W3 B3.out).mono ?_
      rintro r w9 ⟨av9, cv9, rfl, hG9, hb9⟩
      have G9 := hide hG9
      have B9 := hide (below_next B3.out hb9)
      have hl9 := X3.out.lt
      obtain ⟨⟨t0, t1, t2⟩, t3, t4, t5⟩ := X3.out.below hb9
      clear hG9 hb9
      go_wp2_with fail
      exact bodyPost_ret (v := .agg #[.int .i64 0, .int .i64 4, .slice av9 U.length cv9]) (by simp [results, Tryz.results22, go_sem, t0, t1, t2]) rfl ⟨0, 4, U, HF.out, ResG.of hl9 (Nat.le_refl _) rfl G9.out B9.out⟩
    | some e =>
      have hfT := all_fit (rights_fit HRR.out)
      have hsm := hfT.fit.small e (find_mem ha).1
      have HEP := hide (show e.path = p from (find_mem ha).2)
      cases hat : atE U p with
      | none =>
        have HAT0 := hide hat
        have hfu := find_at_none hat
        obtain ⟨rep, V, hV⟩ := fills_ex U U e
        have HF : Hid (FaceM (askL al p) PP 0 rep V) := hide (FaceM.yes HC.out (by rw [HPP.out, ← HALL.out]; exact ⟨fun h => (by rw [ha] at h; cases h), fun _ h => absurd hfu h, fun e' h _ => (by rw [ha] at h; cases h; exact hV)⟩))
        have HV := hide hV
        clear hV hat hfu hfT
        go_enter Tryz.func22, Tryz.ntmps22
        go_wp2_with fail
        refine HAS.out.mono ?_
        rintro r w1 ⟨rfl, hb1⟩
        have X1 := hide (X0.out.below hb1)
        have B1 := hide (below_next B0.out hb1)
        have HA := hide (l9All_any a c ls.length ls u uc U.length U w1 (HRD.out.below B1.out) rfl hl (HU.out.below B1.out) rfl)
        rw [← HALL.out] at HA
        clear hb1 X0 B0 HAS
        go_wp2_with fail
        refine HA.out.mono ?_
        rintro r w2 ⟨av, cv, rfl, hr2, hb2⟩
        have X2 := hide (X1.out.below hb2)
        have B2 := hide (below_next B1.out hb2)
        have R2 := hide hr2
        clear hr2 hb2 X1 B1 HA
        have HLK := hide (l8Look_yes av cv _ _ p w2 R2.out rfl H4.out HRR.out HP.out hpl e ha)
        clear ha
        go_wp2_with fail
        refine HLK.out.mono ?_
        rintro r w3 ⟨x, xc, rfl, hO3, hb3⟩
        have A3 := hide (below_alloc w3 (.cells #[.string (str e.path), .int .i64 e.kind, .int .i64 e.size, .slice x e.chunks.length xc] 53))
        have B3 := hide (below_next B2.out (below_next hb3 A3.out))
        have X3 := hide (X2.out.below (below_next hb3 A3.out))
        have F3 := hide (Four.new w3 (.string (str e.path)) (.int .i64 e.kind) (.int .i64 e.size) (.slice x e.chunks.length xc) 53)
        have RX := hide ((ownInts_reads hO3 rfl).below A3.out)
        clear hb3 hO3 A3 HLK X2 B2 R2
        go_wp2_with fail
        generalize w3.alloc (.cells #[.string (str e.path), .int .i64 e.kind, .int .i64 e.size, .slice x e.chunks.length xc] 53) = W3 at *
        generalize w3.heap.size = b3 at *
        have HAT := hide (l4At_any u uc U.length U p W3 (HU.out.below B3.out) rfl (by omega))
        refine HAT.out.mono ?_
        rintro r w4 ⟨rfl, rfl⟩
        rw [HAT0.out]
        simp only [placeI]
        clear HAT HAT0
        obtain ⟨f0, f1, f2, f3⟩ := F3.out
        go_wp2_with fail
        clear f0 f1 f2 f3
        have HFL := hide (l9Fill_any u uc U.length U u uc U.length U e x e.chunks.length xc w4 (HU.out.below B3.out) rfl (by omega) HUs.out (HU.out.below B3.out) rfl (by omega) HUs.out (by rw [HEP.out]; exact HP.out) rfl RX.out hsm.1 hsm.2 rep V HV.out)
        refine HFL.out.mono ?_
        rintro r w9 ⟨av9, cv9, rfl, hG9, hb9⟩
        have G9 := hide hG9
        have B9 := hide (below_next B3.out hb9)
        have hl9 := X3.out.lt
        obtain ⟨⟨t0, t1, t2⟩, t3, t4, t5⟩ := X3.out.below hb9
        clear hG9 hb9
        go_wp2_with fail
        exact bodyPost_ret (v := .agg #[.int .i64 0, .int .i64 rep, .slice av9 V.length cv9]) (by simp [results, Tryz.results22, go_sem, t0, t1, t2]) rfl ⟨0, rep, V, HF.out, ResG.of hl9 (Nat.le_refl _) rfl G9.out B9.out⟩
      | some k =>
        have HAT0 := hide hat
        have hfu : findE U p ≠ none := by rw [find_at hat (List.getElem?_eq_getElem (atE_lt hat))]; simp
        have HF : Hid (FaceM (askL al p) PP 0 0 U) := hide (FaceM.yes HC.out (by rw [HPP.out, ← HALL.out]; exact ⟨fun h => (by rw [ha] at h; cases h), fun _ _ => ⟨rfl, rfl⟩, fun e' h h2 => absurd h2 hfu⟩))
        clear hat hfu hfT
        go_enter Tryz.func22, Tryz.ntmps22
        go_wp2_with fail
        refine HAS.out.mono ?_
        rintro r w1 ⟨rfl, hb1⟩
        have X1 := hide (X0.out.below hb1)
        have B1 := hide (below_next B0.out hb1)
        have HA := hide (l9All_any a c ls.length ls u uc U.length U w1 (HRD.out.below B1.out) rfl hl (HU.out.below B1.out) rfl)
        rw [← HALL.out] at HA
        clear hb1 X0 B0 HAS
        go_wp2_with fail
        refine HA.out.mono ?_
        rintro r w2 ⟨av, cv, rfl, hr2, hb2⟩
        have X2 := hide (X1.out.below hb2)
        have B2 := hide (below_next B1.out hb2)
        have R2 := hide hr2
        clear hr2 hb2 X1 B1 HA
        have HLK := hide (l8Look_yes av cv _ _ p w2 R2.out rfl H4.out HRR.out HP.out hpl e ha)
        clear ha
        go_wp2_with fail
        refine HLK.out.mono ?_
        rintro r w3 ⟨x, xc, rfl, hO3, hb3⟩
        have A3 := hide (below_alloc w3 (.cells #[.string (str e.path), .int .i64 e.kind, .int .i64 e.size, .slice x e.chunks.length xc] 53))
        have B3 := hide (below_next B2.out (below_next hb3 A3.out))
        have X3 := hide (X2.out.below (below_next hb3 A3.out))
        have F3 := hide (Four.new w3 (.string (str e.path)) (.int .i64 e.kind) (.int .i64 e.size) (.slice x e.chunks.length xc) 53)
        have RX := hide ((ownInts_reads hO3 rfl).below A3.out)
        clear hb3 hO3 A3 HLK X2 B2 R2
        go_wp2_with fail
        generalize w3.alloc (.cells #[.string (str e.path), .int .i64 e.kind, .int .i64 e.size, .slice x e.chunks.length xc] 53) = W3 at *
        generalize w3.heap.size = b3 at *
        have HAT := hide (l4At_any u uc U.length U p W3 (HU.out.below B3.out) rfl (by omega))
        refine HAT.out.mono ?_
        rintro r w4 ⟨rfl, rfl⟩
        rw [HAT0.out]
        simp only [placeI]
        clear HAT HAT0
        obtain ⟨f0, f1, f2, f3⟩ := F3.out
        go_wp2_with fail
        clear f0 f1 f2 f3
        refine (HST.out 0 w4 B3.out).mono ?_
        rintro r w9 ⟨av9, cv9, rfl, hG9, hb9⟩
        have G9 := hide hG9
        have B9 := hide (below_next B3.out hb9)
        have hl9 := X3.out.lt
        obtain ⟨⟨t0, t1, t2⟩, t3, t4, t5⟩ := X3.out.below hb9
        clear hG9 hb9
        go_wp2_with fail
        exact bodyPost_ret (v := .agg #[.int .i64 0, .int .i64 0, .slice av9 U.length cv9]) (by simp [results, Tryz.results22, go_sem, t0, t1, t2]) rfl ⟨0, 0, U, HF.out, ResG.of hl9 (Nat.le_refl _) rfl G9.out B9.out⟩
  · have HZ := hide (FaceM.no (P := PP) hz)
    generalize askL al p = F at *
    have hz2 : (F != 0) = true := by simp; exact hz
    clear hz
    go_enter Tryz.func22, Tryz.ntmps22
    go_wp2_with fail
    refine HAS.out.mono ?_
    rintro r w2 ⟨rfl, hb2⟩
    have B2 := hide (below_next B0.out hb2)
    obtain ⟨⟨t0, t1, t2⟩, t3, t4, t5⟩ := X0.out.below hb2
    clear hb2
    go_wp2_with fail
    exact bodyPost_ret (v := .agg #[.int .i64 F, .int .i64 0, .slice none 0 0]) (by simp [results, Tryz.results22, go_sem, t0, t1, t2]) rfl ⟨F, 0, [], HZ.out, ResG.of (b := w.heap.size) (Nat.lt_succ_self _) (Nat.le_refl _) rfl (GW.nil _ _) B2.out⟩
end Go.Proofs.YtebgfaohhhgdpaaGreat

namespace Go.Proofs.YtebgfaohhhgdpaaGreat
set_option linter.unusedVariables false

theorem fold_mem {x : En} : ∀ {us : List Bs} {o : List En}, x ∈ us.foldl fillStep o → x ∈ o ∨ ∃ u ∈ us, x = dirQ u
  | [], o, h => .inl h
  | u :: us, o, h => by
    rcases fold_mem (us := us) (o := fillStep o u) h with h | ⟨v, hv, e⟩
    · unfold fillStep at h
      split at h
      · rcases mem_putE.1 h with h | ⟨h, -⟩
        · exact .inr ⟨u, List.mem_cons_self, h⟩
        · exact .inl h
      · exact .inl h
    · exact .inr ⟨v, List.mem_cons_of_mem _ hv, e⟩
theorem fold_same : ∀ {us : List Bs} {o : List En}, (∀ u ∈ us, findE o u ≠ none) → us.foldl fillStep o = o
  | [], o, h => rfl
  | u :: us, o, h => by
    have h1 : fillStep o u = o := by rw [fillStep, if_neg (h u List.mem_cons_self)]
    rw [List.foldl_cons, h1]
    exact fold_same (fun v hv => h v (List.mem_cons_of_mem _ hv))
theorem find_yes_of {es : List En} {x : En} (hx : x ∈ es) : findE es x.path ≠ none := by
  intro h
  have := List.find?_eq_none.1 h x hx
  simp at this
/-- All above a path that is there are there. -/
theorem ups_there {U : List En} (h : Fit U) {q : Bs} (hq : faultP q = 0) (hf : findE U q ≠ none) : ∀ u ∈ above q, findE U u ≠ none := by
  intro u hu
  cases hx : findE U q with
  | none => exact absurd hx hf
  | some x =>
    obtain ⟨hm, hp⟩ := find_mem hx
    rw [above_good hq] at hu
    obtain ⟨h1, h2⟩ := (above_iff hq).1 hu
    obtain ⟨d, hd, hdp, -⟩ := h.up h1 hm (by rw [hp]; exact h2)
    rw [← hdp]
    exact find_yes_of hd
theorem above_ne {q u : Bs} (hq : faultP q = 0) (hu : u ∈ above q) : u ≠ q := by
  intro e
  rw [above_good hq] at hu
  have := below_len ((above_iff hq).1 hu).2
  rw [e] at this
  omega
/-- The fill by the parent. -/
theorem fill_up {U : List En} (h : Fit U) {e : En} (hp : faultP e.path = 0) : fillS U e = if needsU U e = true then putE (fillS U (dirQ (parentP e.path))) e else putE U e := by
  have hk := above_kid hp rfl
  by_cases h0 : parentP e.path = []
  · rw [if_pos h0] at hk
    rw [fillS, hk, if_neg (by simp [needsU, h0])]
    rfl
  · rw [if_neg h0] at hk
    obtain ⟨hq, -⟩ := parent_above hp h0
    rw [fillS, hk, List.foldl_append, List.foldl_cons, List.foldl_nil]
    by_cases hf : findE U (parentP e.path) = none
    · rw [if_pos (by simp [needsU, h0, hf])]
      have h1 : findE ((above (parentP e.path)).foldl fillStep U) (parentP e.path) = none := find_none (fun x hx hxp => by
        rcases fold_mem hx with hx | ⟨u, hu, rfl⟩
        · exact find_yes_of hx (by rw [hxp]; exact hf)
        · exact above_ne hq hu hxp)
      rw [fillStep, if_pos h1]
      rfl
    · rw [if_neg (by cases hs : findE U (parentP e.path) with
        | none => exact absurd hs hf
        | some x => simp [needsU, hs])]
      rw [fold_same (ups_there h hq hf), fillStep, if_neg hf]
/-- Nothing at or below a path whose parent is not there. -/
theorem bare_up {U : List En} (h : Fit U) {p : Bs} (hp : faultP p = 0) (h0 : parentP p ≠ []) (hf : findE U (parentP p) = none) : ∀ x ∈ U, x.path ≠ p ∧ belowB x.path p = false := by
  intro x hx
  obtain ⟨hq, hb⟩ := parent_above hp h0
  have key : belowB x.path (parentP p) = true → False := fun hxb => by
    obtain ⟨d, hd, hdp, -⟩ := h.up hq hx hxb
    exact find_yes_of hd (by rw [hdp]; exact hf)
  refine ⟨fun e => key (by rw [e]; exact hb), ?_⟩
  cases hxb : belowB x.path p with
  | false => rfl
  | true => exact absurd (below_trans hxb hb) (fun h => key h)
theorem put_more {D : List En} {e : En} (h : ∀ x ∈ D, x.path ≠ e.path ∧ belowB x.path e.path = false) : (putE D e).length = D.length + 1 := by
  rw [putE_len]
  congr 1
  rw [baseE, List.filter_eq_self.2]
  intro x hx
  obtain ⟨h1, h2⟩ := h x hx
  simp [keepE, h1, h2]
theorem put_code {D : List En} {e : En} (h : Right D) (he : entFault e = 0) (hh : homeP D e.path = true) : (putCodeP D e, putListP D e) = if (putE D e).length ≤ 12 then ((0 : Int), putE D e) else (2, []) := by
  have h1 : putCodeP D e = if 12 < (putE D e).length then 2 else 0 := by rw [putCodeP, if_pos (right_P.2 h), if_pos he, if_pos hh]
  by_cases hl : 12 < (putE D e).length
  · rw [if_neg (by omega), putListP, h1, if_pos hl]; rfl
  · rw [if_pos (by omega), putListP, h1, if_neg hl]; rfl
theorem filR_fill {U : List En} (h : Right U) : ∀ (n : Nat) (e : En), (above e.path).length = n → entFault e = 0 → (∀ u ∈ above e.path, ∀ x, findE U u = some x → dirK x.kind = true) → filR n U e = if (fillS U e).length ≤ 12 then (0, fillS U e) else (2, [])
  | n, e, hn, he, hd => by
    have hp := entFault_zero he
    have hF := (right_fit.1 h).1
    have hfu := fill_up hF hp
    have hk := above_kid hp rfl
    by_cases hu : needsU U e = true
    · rw [if_pos hu] at hfu
      have h0 : parentP e.path ≠ [] := by intro e0; simp [needsU, e0] at hu
      have hf : findE U (parentP e.path) = none := by
        cases hs : findE U (parentP e.path) with
        | none => rfl
        | some x => simp [needsU, hs] at hu
      rw [if_neg h0] at hk
      obtain ⟨hq, hb⟩ := parent_above hp h0
      cases n with
      | zero => exact absurd (parU_none hp hn) h0
      | succ n =>
        have ih := filR_fill h n (dirQ (parentP e.path)) (parN hp h0 hn) (dirE_right hq) (fun u hu2 x hx => hd u (by rw [hk]; exact List.mem_append_left _ hu2) x hx)
        by_cases hl : (fillS U (dirQ (parentP e.path))).length ≤ 12
        · rw [if_pos hl] at ih
          have hz : (filR n U (dirQ (parentP e.path))).1 = 0 := by rw [ih]
          have hR := (filR_zero hz).1
          rw [filR_put hu hz]
          rw [ih] at hR ⊢
          rw [hfu]
          exact put_code hR he (homeP_iff.2 (.inr ⟨dirQ (parentP e.path), mem_putE.2 (.inl rfl), rfl, rfl⟩))
        · rw [if_neg hl] at ih
          have hz : (filR n U (dirQ (parentP e.path))).1 ≠ 0 := by rw [ih]; decide
          rw [filR_bad hu hz, ih, if_neg]
          rw [hfu, put_more]
          · omega
          · intro x hx
            rcases mem_putE.1 hx with rfl | ⟨hx, -⟩
            · exact ⟨parent_ne hp h0, by
                cases hxb : belowB (parentP e.path) e.path with
                | false => exact hxb
                | true => have a1 := below_len hxb; have a2 := below_len hb; omega⟩
            · rcases fold_mem hx with hx | ⟨u, hu2, rfl⟩
              · exact bare_up hF hp h0 hf x hx
              · have hu3 : u ∈ above (parentP e.path) := hu2
                rw [above_good hq] at hu3
                have a1 := below_len ((above_iff hq).1 hu3).2
                have a2 := below_len hb
                refine ⟨fun e1 => ?_, ?_⟩
                · have e2 : u = e.path := e1
                  rw [e2] at a1
                  omega
                · cases hxb : belowB u e.path with
                  | false => exact hxb
                  | true => have a3 := below_len hxb; omega
    · have hu2 : needsU U e = false := by simpa using hu
      rw [if_neg hu] at hfu
      rw [filR_none hu2, hfu]
      refine put_code h he ?_
      by_cases h0 : parentP e.path = []
      · exact homeP_iff.2 (.inl h0)
      · cases hs : findE U (parentP e.path) with
        | none => simp [needsU, h0, hs] at hu
        | some x =>
          obtain ⟨hm, hxp⟩ := find_mem hs
          rw [if_neg h0] at hk
          exact homeP_iff.2 (.inr ⟨x, hm, hxp, hd _ (by rw [hk]; simp) x hs⟩)
end Go.Proofs.YtebgfaohhhgdpaaGreat

namespace Go.Proofs.YtebgfaohhhgdpaaGreat
set_option linter.unusedVariables false

theorem find_putE (D : List En) (e : En) (q : Bs) : findE (putE D e) q = if q = e.path then some e else if (dirK e.kind || !(belowB q e.path)) = true then findE D q else none := by
  have hb : baseE D e = D.filter fun x => (fun p : Bs => !(decide (p = e.path)) && (dirK e.kind || !(belowB p e.path))) x.path := rfl
  rw [putE, find_putAt (fun x hx => by
    have := (List.mem_filter.1 hx).2
    simp only [keepE, Bool.and_eq_true, Bool.not_eq_true', decide_eq_false_iff_not] at this
    exact this.1)]
  by_cases h : q = e.path
  · rw [if_pos h, if_pos h]
  · rw [if_neg h, if_neg h, hb]
    have h2 := find_filter D (fun p : Bs => !(decide (p = e.path)) && (dirK e.kind || !(belowB p e.path))) q
    rw [h2]
    simp [h]
theorem find_fstep (o : List En) (u q : Bs) : findE (fillStep o u) q = if findE o q = none ∧ q = u then some (dirQ u) else findE o q := by
  unfold fillStep
  by_cases h : findE o u = none
  · rw [if_pos h, find_putE]
    by_cases hq : q = u
    · subst hq; simp [dirQ, h]
    · have : ¬ q = (dirQ u).path := hq
      rw [if_neg this, if_pos (by rfl), if_neg (fun hx => hq hx.2)]
  · rw [if_neg h]
    by_cases hq : q = u
    · subst hq; simp [h]
    · rw [if_neg (fun hx => hq hx.2)]
theorem find_fold (q : Bs) : ∀ (us : List Bs) (o : List En), findE (us.foldl fillStep o) q = if findE o q = none ∧ q ∈ us then some (dirQ q) else findE o q
  | [], o => by simp
  | u :: us, o => by
    rw [List.foldl_cons, find_fold q us, find_fstep]
    by_cases h1 : findE o q = none
    · by_cases h2 : q = u
      · subst h2; simp [h1]
      · simp [h1, h2]
    · simp [h1]
/-- What stands at a path of a layer that was filled up. -/
theorem find_fill (U : List En) (e : En) (q : Bs) : findE (fillS U e) q = if q = e.path then some e else if (dirK e.kind || !(belowB q e.path)) = true then (if findE U q = none ∧ q ∈ above e.path then some (dirQ q) else findE U q) else none := by
  rw [fillS, find_putE, find_fold]
/-- What is above a path whose home is seen is seen, as directories. -/
theorem ups_dir {T : List En} (h : FitT T) {p : Bs} (hp : faultP p = 0) (hh : homeC T p = 0) : ∀ u ∈ above p, findE T u = some (dirQ u) := by
  have hk := above_kid hp rfl
  intro u hu
  by_cases h0 : parentP p = []
  · rw [if_pos h0] at hk; rw [hk] at hu; simp at hu
  · rw [if_neg h0] at hk
    obtain ⟨hq, -⟩ := parent_above hp h0
    have key : ∀ d ∈ T, dirK d.kind = true → d.path = u → findE T u = some (dirQ u) := fun d hd hdk hdp => by
      have h1 := rise_find h.fit.rise hd
      rw [hdp] at h1
      rw [h1]
      have hup : faultP u = 0 := by rw [← hdp]; exact h.fit.path hd
      have := asT_one (h.fit.ent d hd) (dirE_right hup) hdp hdk rfl
      rw [asT, if_neg (by rw [h.dir hd hdk]; decide)] at this
      exact congrArg some this
    cases hs : findE T (parentP p) with
    | none => rw [homeC_none h0 hs] at hh; cases hh
    | some d =>
      obtain ⟨hd, hdp⟩ := find_mem hs
      have hdk : dirK d.kind = true := by
        have h1 := h.kind d hd
        simp only [homeC, if_neg h0, hs] at hh
        simp only [treeK, decide_eq_true_eq] at h1
        rcases h1 with h1 | h1
        · rw [if_pos h1] at hh; cases hh
        · simp [dirK, h1]
      rw [hk] at hu
      rcases List.mem_append.1 hu with hu | hu
      · rw [above_good hq] at hu
        obtain ⟨h1, h2⟩ := (above_iff hq).1 hu
        obtain ⟨d2, hd2, hdp2, hdk2⟩ := h.fit.up h1 hd (by rw [hdp]; exact h2)
        exact key d2 hd2 hdk2 hdp2
      · simp only [List.mem_singleton] at hu
        exact key d hd hdk (by rw [hdp, hu])
/-- So what the layer has above it is a directory. -/
theorem dirs_ok {t U : List En} (ht : FitT t) (hU : Fit U) {p : Bs} (hp : faultP p = 0) (hh : homeC (mergeE t U) p = 0) : ∀ u ∈ above p, ∀ x, findE U u = some x → dirK x.kind = true := by
  intro u hu x hx
  have h1 := ups_dir (merge_fit ht hU) hp hh u hu
  rw [merge_find ht hU, seeT_some hx] at h1
  by_cases h3 : x.kind = 3
  · rw [if_pos h3] at h1; cases h1
  · rw [if_neg h3] at h1
    have h2 : asT x = dirQ u := Option.some.inj h1
    have h4 : (asT x).kind = 2 := by rw [h2]; rfl
    rcases ent_kinds (hU.ent x (find_mem hx).1) with hk | hk | hk | hk
    · rw [asT, if_neg (by rw [hk]; decide), hk] at h4; cases h4
    · simp [dirK, hk]
    · exact absurd hk h3
    · simp [dirK, hk]
theorem fill_right {U : List En} (h : Right U) {e : En} (he : entFault e = 0) (hd : ∀ u ∈ above e.path, ∀ x, findE U u = some x → dirK x.kind = true) (hl : (fillS U e).length ≤ 12) : Right (fillS U e) := by
  have h1 := filR_fill h _ e rfl he hd
  rw [if_pos hl] at h1
  have h2 := (filR_zero (n := (above e.path).length) (U := U) (e := e) (by rw [h1])).1
  rwa [h1] at h2
theorem filU_fill {U : List En} (h : Right U) {e : En} (he : entFault e = 0) (hd : ∀ u ∈ above e.path, ∀ x, findE U u = some x → dirK x.kind = true) : filU U e = if (fillS U e).length ≤ 12 then (0, fillS U e) else (2, []) := filR_fill h _ e rfl he hd
/-- A layer filled up hides what it hid, but below the entry. -/
theorem hid_fill {U : List En} {e : En} {q : Bs} (hp : faultP e.path = 0) (hb : belowB q e.path = false) : hid (fillS U e) q = hid U q := by
  rw [Bool.eq_iff_iff, hid_iff, hid_iff]
  constructor
  · rintro ⟨x, hx, hk, hxb⟩
    rcases mem_putE.1 hx with rfl | ⟨hx, -⟩
    · rw [hb] at hxb; cases hxb
    · rcases fold_mem hx with hx | ⟨u, hu, rfl⟩
      · exact ⟨x, hx, hk, hxb⟩
      · exact absurd rfl hk
  · rintro ⟨x, hx, hk, hxb⟩
    have hne : x.path ≠ e.path := fun e1 => by rw [e1] at hxb; rw [hb] at hxb; cases hxb
    have hnb : belowB x.path e.path = false := by
      cases h1 : belowB x.path e.path with
      | false => rfl
      | true => rw [below_trans hxb h1] at hb; cases hb
    refine ⟨x, mem_putE.2 (.inr ⟨?_, by simp [keepE, hne, hnb]⟩), hk, hxb⟩
    have : ∀ (us : List Bs) (o : List En), (∀ u ∈ us, findE o u = none → x.path ≠ u) → x ∈ o → x ∈ us.foldl fillStep o := by
      intro us
      induction us with
      | nil => intro o _ h; exact h
      | cons u us ih =>
        intro o hn h
        rw [List.foldl_cons]
        have hin : x ∈ fillStep o u := by
          unfold fillStep
          split
          · rename_i h1
            exact mem_putE.2 (.inr ⟨h, by simp [keepE, dirQ, hn u List.mem_cons_self h1, dirK]⟩)
          · exact h
        exact ih _ (fun v hv h2 e1 => by rw [← e1] at h2; exact find_yes_of hin h2) hin
    exact this _ _ (fun u hu h1 e1 => by rw [← e1] at h1; exact find_yes_of hx h1) hx
/-- What is seen elsewhere stays. -/
theorem view_out {t U : List En} (ht : FitT t) (hU : Right U) {e : En} (he : entFault e = 0) (hh : homeC (mergeE t U) e.path = 0) (hl : (fillS U e).length ≤ 12) {q : Bs} (hq : q ≠ e.path) (hb : belowB q e.path = false) : findE (mergeE t (fillS U e)) q = findE (mergeE t U) q := by
  have hp := entFault_zero he
  have hF := (right_fit.1 hU).1
  have hd := dirs_ok ht hF hp hh
  have hR := fill_right hU he hd hl
  rw [merge_find ht (right_fit.1 hR).1]
  have hf := find_fill U e q
  rw [if_neg hq, if_pos (by simp [hb])] at hf
  by_cases h1 : findE U q = none
  · by_cases h2 : q ∈ above e.path
    · rw [if_pos ⟨h1, h2⟩] at hf
      rw [seeT_some hf, if_neg (by simp [dirQ]), ups_dir (merge_fit ht hF) hp hh q h2]
      rfl
    · rw [if_neg (fun h => h2 h.2)] at hf
      rw [seeT_none (hf.trans h1), merge_find ht hF, seeT_none h1, hid_fill hp hb]
  · rw [if_neg (fun h => h1 h.1)] at hf
    cases hx : findE U q with
    | none => exact absurd hx h1
    | some x => rw [seeT_some (hf.trans hx), merge_find ht hF, seeT_some hx]
theorem view_at {t U : List En} (ht : FitT t) (hU : Right U) {e : En} (he : entFault e = 0) (hh : homeC (mergeE t U) e.path = 0) (hl : (fillS U e).length ≤ 12) : findE (mergeE t (fillS U e)) e.path = if e.kind = 3 then none else some (asT e) := by
  have hp := entFault_zero he
  have hF := (right_fit.1 hU).1
  have hR := fill_right hU he (dirs_ok ht hF hp hh) hl
  rw [merge_find ht (right_fit.1 hR).1]
  exact seeT_some (by rw [find_fill, if_pos rfl])
/-- Below an entry that is no plain directory, where the layer itself has nothing: nothing. -/
theorem view_low {t U : List En} (ht : FitT t) (hU : Right U) {e : En} (he : entFault e = 0) (hh : homeC (mergeE t U) e.path = 0) (hl : (fillS U e).length ≤ 12) {q : Bs} (hk : e.kind ≠ 2) (hn : dirK e.kind = true → findE U q = none) (hb : belowB q e.path = true) : findE (mergeE t (fillS U e)) q = none := by
  have hp := entFault_zero he
  have hF := (right_fit.1 hU).1
  have hR := fill_right hU he (dirs_ok ht hF hp hh) hl
  rw [merge_find ht (right_fit.1 hR).1]
  have hne : q ≠ e.path := fun e1 => by have := below_len hb; rw [e1] at this; omega
  have hna : q ∉ above e.path := fun hx => by rw [below_not hp hx] at hb; cases hb
  have hf := find_fill U e q
  rw [if_neg hne] at hf
  have hz : findE (fillS U e) q = none := by
    rw [hf]
    by_cases hd : dirK e.kind = true
    · rw [if_pos (by simp [hd]), if_neg (fun h => hna h.2)]; exact hn hd
    · rw [if_neg (by simp [hd, hb])]
  have hhid : hid (fillS U e) q = true := hid_iff.2 ⟨e, mem_putE.2 (.inl rfl), hk, hb⟩
  rw [seeT_none hz, if_pos hhid]
/-- Below a plain directory, where the layer had nothing at all or a plain directory: as before. -/
theorem view_dir {t U : List En} (ht : FitT t) (hU : Right U) {e : En} (he : entFault e = 0) (hh : homeC (mergeE t U) e.path = 0) (hl : (fillS U e).length ≤ 12) {q : Bs} (hk : e.kind = 2) (hn : findE U e.path = none) (hb : belowB q e.path = true) : findE (mergeE t (fillS U e)) q = findE (mergeE t U) q := by
  have hp := entFault_zero he
  have hF := (right_fit.1 hU).1
  have hR := fill_right hU he (dirs_ok ht hF hp hh) hl
  rw [merge_find ht (right_fit.1 hR).1, merge_find ht hF]
  have hne : q ≠ e.path := fun e1 => by have := below_len hb; rw [e1] at this; omega
  have hna : q ∉ above e.path := fun hx => by rw [below_not hp hx] at hb; cases hb
  have hf := find_fill U e q
  rw [if_neg hne, if_pos (by simp [dirK, hk]), if_neg (fun h => hna h.2)] at hf
  have hz : findE U q = none := hF.bare_find hp (fun d hd hdp => absurd (find_yes_of hd) (by rw [hdp]; simp [hn])) hb
  rw [seeT_none (hf.trans hz), seeT_none hz]
  have : hid (fillS U e) q = hid U q := by
    rw [Bool.eq_iff_iff, hid_iff, hid_iff]
    constructor
    · rintro ⟨x, hx, hk2, hxb⟩
      rcases mem_putE.1 hx with rfl | ⟨hx, -⟩
      · exact absurd hk hk2
      · rcases fold_mem hx with hx | ⟨u, hu, rfl⟩
        · exact ⟨x, hx, hk2, hxb⟩
        · exact absurd rfl hk2
    · rintro ⟨x, hx, hk2, hxb⟩
      have h1 := find_fill U e x.path
      have hxn : x.path ≠ e.path := fun e1 => find_yes_of hx (by rw [e1]; exact hn)
      rw [if_neg hxn, if_pos (by simp [dirK, hk]), if_neg (fun h => find_yes_of hx h.1), rise_find hF.rise hx] at h1
      exact ⟨x, (find_mem h1).1, hk2, hxb⟩
  rw [this]
end Go.Proofs.YtebgfaohhhgdpaaGreat

namespace Go.Proofs.YtebgfaohhhgdpaaGreat
set_option linter.unusedVariables false

theorem FillsO.one {O U : List En} {e : En} {r r2 : Int} {V V2 : List En} (h : FillsO O U e r V) (h2 : FillsO O U e r2 V2) : r = r2 ∧ V = V2 := by
  by_cases hl : 12 < (fillS U e).length
  · obtain ⟨a1, a2⟩ := h.1 hl; obtain ⟨b1, b2⟩ := h2.1 hl; exact ⟨a1.trans b1.symm, a2.trans b2.symm⟩
  · obtain ⟨a1, a2⟩ := h.2 hl; obtain ⟨b1, b2⟩ := h2.2 hl; exact ⟨a1.trans b1.symm, a2.trans b2.symm⟩
theorem fills_wrt {U : List En} (h : Right U) {e : En} (he : entFault e = 0) (hd : ∀ u ∈ above e.path, ∀ x, findE U u = some x → dirK x.kind = true) : FillsO U U e (wrtR U e) (wrtL U e) := by
  have h1 := filU_fill h he hd
  refine ⟨fun hl => ?_, fun hl => ?_⟩
  · rw [if_neg (by omega)] at h1
    exact ⟨by rw [wrtR, h1], by rw [wrtL, h1, if_neg (by decide)]⟩
  · rw [if_pos (by omega)] at h1
    exact ⟨by rw [wrtR, h1], by rw [wrtL, h1, if_pos rfl]⟩
theorem home_seen {T : List En} (h : FitT T) {p : Bs} {e : En} (hf : findE T p = some e) : homeC T p = 0 := by
  obtain ⟨hm, hp⟩ := find_mem hf
  rcases homeP_iff.1 (h.fit.home e hm) with h0 | ⟨d, hd, hdp, hdk⟩
  · rw [hp] at h0; exact homeC_top h0
  · rw [hp] at hdp
    have h1 := rise_find h.fit.rise hd
    rw [hdp] at h1
    by_cases h0 : parentP p = []
    · exact homeC_top h0
    · simp only [homeC, if_neg h0, h1]
      rw [if_neg (by rw [h.dir hd hdk]; decide)]
theorem findCode_iff {U : List En} {p : Bs} (h : Right U) (hp : faultP p = 0) : findCodeP U p = 0 ↔ findE U p ≠ none := by
  rw [findCodeP, if_pos (askP_of h hp)]
  cases findE U p <;> simp
theorem asT_tree {e : En} (h : treeK e.kind = true) : asT e = e := by
  simp only [treeK, decide_eq_true_eq] at h
  rw [asT, if_neg (by omega)]
/-- The layers below, and the upper one, of layers that are right. -/
theorem parts_of {ls : List (List En)} {U : List En} {p : Bs} (h : askL (ls ++ [U]) p = 0) : FitT (allE ls) ∧ Right U ∧ faultP p = 0 ∧ allE (ls ++ [U]) = mergeE (allE ls) U := by
  obtain ⟨h4, hR, hp⟩ := askL_right h
  exact ⟨all_fit (rights_fit fun es he => hR es (List.mem_append_left _ he)), hR U (by simp), hp, allE_snoc ls U⟩
/-- A copy: program and model tell one thing. -/
theorem cpy_same {ls : List (List En)} {U : List En} {p : Bs} {q rep q2 rep2 : Int} {V V2 : List En} (h : CpyOf ls U p q rep V) (h2 : FaceM (askL (ls ++ [U]) p) (CpS (allE (ls ++ [U])) U p) q2 rep2 V2) : q = q2 ∧ rep = rep2 ∧ V = V2 := by
  by_cases hz : askL (ls ++ [U]) p = 0
  · obtain ⟨ht, hU, hp, hT⟩ := parts_of hz
    obtain ⟨g1, g2⟩ := h2.good hz
    obtain ⟨l1, l2⟩ := look_all hz
    have hF := (right_fit.1 hU).1
    have hTF : FitT (allE (ls ++ [U])) := by rw [hT]; exact merge_fit ht hF
    cases hs : findE (allE (ls ++ [U])) p with
    | none =>
      rw [hs] at l1
      have l3 : plcC (ls ++ [U]) p = 4 := by rw [l1]; rfl
      obtain ⟨a1, a2, a3⟩ := h.none hz (by rw [l3]; decide)
      obtain ⟨b1, b2⟩ := g2.none hs
      exact ⟨a1.trans g1.symm, by rw [a2, l3, b1], a3.trans b2.symm⟩
    | some e =>
      rw [hs] at l1 l2
      have l3 : plcC (ls ++ [U]) p = 0 := by rw [l1]; rfl
      by_cases hu : findE U p = none
      · have hc : findCodeP U p ≠ 0 := fun hc => (findCode_iff hU hp).1 hc hu
        obtain ⟨a1, a2, a3⟩ := h.copy hz l3 hc e (by rw [l2]; rfl)
        obtain ⟨hm, hep⟩ := find_mem hs
        have he := hTF.fit.ent e hm
        have hd : ∀ u ∈ above e.path, ∀ x, findE U u = some x → dirK x.kind = true := by
          rw [hep]
          exact dirs_ok ht hF hp (by rw [← hT]; exact home_seen hTF hs)
        obtain ⟨b1, b2⟩ := (fills_wrt hU he hd).one (g2.copy e hs hu)
        exact ⟨a1.trans g1.symm, a2.trans b1, a3.trans b2⟩
      · obtain ⟨a1, a2, a3⟩ := h.there hz l3 ((findCode_iff hU hp).2 hu)
        obtain ⟨b1, b2⟩ := g2.there (by rw [hs]; simp) hu
        exact ⟨a1.trans g1.symm, a2.trans b1.symm, a3.trans b2.symm⟩
  · obtain ⟨a1, a2, a3⟩ := h.bad hz
    obtain ⟨b1, b2, b3⟩ := h2.bad hz
    exact ⟨a1.trans b1.symm, a2.trans b2.symm, a3.trans b3.symm⟩
/-- A copy is seen as before, is there, and its layer is right. -/
theorem cpy_view {ls : List (List En)} {U : List En} {p : Bs} {V : List En} (h : CpyOf ls U p 0 0 V) : askL (ls ++ [U]) p = 0 ∧ Right V ∧ findE V p ≠ none ∧ allE (ls ++ [V]) = allE (ls ++ [U]) := by
  have hz : askL (ls ++ [U]) p = 0 := by
    by_cases hz : askL (ls ++ [U]) p = 0
    · exact hz
    · exact absurd (h.bad hz).1.symm hz
  obtain ⟨ht, hU, hp, hT⟩ := parts_of hz
  obtain ⟨l1, l2⟩ := look_all hz
  have hF := (right_fit.1 hU).1
  have hTF : FitT (allE (ls ++ [U])) := by rw [hT]; exact merge_fit ht hF
  refine ⟨hz, ?_⟩
  cases hs : findE (allE (ls ++ [U])) p with
  | none =>
    rw [hs] at l1
    have l3 : plcC (ls ++ [U]) p = 4 := by rw [l1]; rfl
    have := (h.none hz (by rw [l3]; decide)).2.1
    rw [l3] at this
    cases this
  | some e =>
    rw [hs] at l1 l2
    have l3 : plcC (ls ++ [U]) p = 0 := by rw [l1]; rfl
    by_cases hu : findE U p = none
    · have hc : findCodeP U p ≠ 0 := fun hc => (findCode_iff hU hp).1 hc hu
      obtain ⟨-, a2, a3⟩ := h.copy hz l3 hc e (by rw [l2]; rfl)
      obtain ⟨hm, hep⟩ := find_mem hs
      have he := hTF.fit.ent e hm
      have hh : homeC (mergeE (allE ls) U) e.path = 0 := by rw [hep, ← hT]; exact home_seen hTF hs
      have hd := dirs_ok ht hF (by rw [hep]; exact hp) hh
      have hfw := fills_wrt hU he hd
      have hl : (fillS U e).length ≤ 12 := by
        by_cases hl : 12 < (fillS U e).length
        · have := (hfw.1 hl).1; rw [← a2] at this; cases this
        · omega
      have hV : V = fillS U e := a3.trans (hfw.2 (by omega)).2
      have hR := fill_right hU he hd hl
      subst hV
      refine ⟨hR, by rw [find_fill, if_pos hep.symm]; simp, ?_⟩
      rw [allE_snoc, hT]
      have hk := hTF.kind e hm
      have hFV := (right_fit.1 hR).1
      refine rise_ext (merge_fit ht hFV).fit.rise (merge_fit ht hF).fit.rise (fun x => ?_)
      by_cases hx : x = e.path
      · rw [hx, view_at ht hU he hh hl, ← hT, hep, hs, asT_tree hk]
        simp only [treeK, decide_eq_true_eq] at hk
        rw [if_neg (by omega)]
      · cases hb : belowB x e.path with
        | false => exact view_out ht hU he hh hl hx hb
        | true =>
          simp only [treeK, decide_eq_true_eq] at hk
          rcases hk with hk | hk
          · rw [view_low ht hU he hh hl (by rw [hk]; decide) (fun hx => by rw [hk] at hx; cases hx) hb, ← hT]
            refine (hTF.fit.bare_find (by rw [hep]; exact hp) (fun d hd hdp => ?_) hb).symm
            have := rise_find hTF.fit.rise hd
            rw [hdp, hep, hs] at this
            cases this
            rw [hk]; rfl
          · exact view_dir ht hU he hh hl hk (by rw [hep]; exact hu) hb
    · obtain ⟨-, -, a3⟩ := h.there hz l3 ((findCode_iff hU hp).2 hu)
      subst a3
      exact ⟨hU, hu, rfl⟩
end Go.Proofs.YtebgfaohhhgdpaaGreat

namespace Go.Proofs.YtebgfaohhhgdpaaGreat
set_option linter.unusedVariables false

/-- What is put where a directory is made. -/
theorem dirF_ent {U : List En} {p : Bs} (hp : faultP p = 0) : entFault (dirF U p) = 0 ∧ (dirF U p).path = p ∧ asT (dirF U p) = dirE p ∧ (dirF U p).kind ≠ 3 := by
  have h4 : entFault (⟨p, 4, 0, []⟩ : En) = 0 := by
    rw [entFault_digs (e := ⟨p, 4, 0, []⟩) hp (by simp [formE]) (by simp [sizeE]) (by simp [manyE])]
    rfl
  have key : dirF U p = ⟨p, 4, 0, []⟩ ∨ dirF U p = ⟨p, 2, 0, []⟩ := by
    unfold dirF
    cases findE U p with
    | none => exact .inr rfl
    | some x =>
      by_cases hk : x.kind = 3
      · left; simp [hk]
      · right; simp [hk]
  rcases key with h | h <;> rw [h]
  · exact ⟨h4, rfl, by simp [asT, kindE, dirE], by simp⟩
  · exact ⟨dirE_right hp, rfl, by simp [asT, dirE], by simp⟩
end Go.Proofs.YtebgfaohhhgdpaaGreat

namespace Go.Proofs.YtebgfaohhhgdpaaGreat
set_option linter.unusedVariables false

def whiteQ (p : Bs) : En := ⟨p, 3, 0, []⟩
theorem whiteQ_ent {p : Bs} (hp : faultP p = 0) : entFault (whiteQ p) = 0 := by
  rw [entFault_digs (e := whiteQ p) hp (by simp [formE, whiteQ]) (by simp [sizeE, whiteQ]) (by simp [manyE, whiteQ])]
  rfl
end Go.Proofs.YtebgfaohhhgdpaaGreat

namespace Go.Proofs.YtebgfaohhhgdpaaGreat
open Go.RowKit Go.Maps
set_option linter.unusedVariables false
attribute [local go_sem ↓] Go.wp_at_zero Go.wp_at_succ


theorem fileE_right {p : Bs} {zs : List Int} (hp : faultP p = 0) (hl : zs.length ≤ 24) : entFault (fileE p zs) = 0 := by
  have h1 : formE (fileE p zs) = true := decide_eq_true ⟨by simp [fileE], .inl rfl⟩
  have h2 : sizeE (fileE p zs) = true := decide_eq_true (by simp [fileE]; omega)
  have h3 : manyE (fileE p zs) = true := decide_eq_true (by show ((digs zs (cut zs).length).length : Int) = ((zs.length : Int) + 7) / 8; rw [digs_len, cut_length]; omega)
  rw [entFault_digs hp h1 h2 h3, if_pos]
  rw [List.all_eq_true]
  intro z hz
  simp only [fileE, digs, List.mem_map] at hz
  obtain ⟨i, _, rfl⟩ := hz
  exact decide_eq_true (digest_range _)
end Go.Proofs.YtebgfaohhhgdpaaGreat

namespace Go.Proofs.YtebgfaohhhgdpaaGreat
set_option linter.unusedVariables false

/-- Another layer on top, of which not too much is seen. -/
theorem mal_up {ls : List (List En)} {U V : List En} (h : malC (ls ++ [U]) = 0) (hV : Right V) (hl : (allE (ls ++ [V])).length ≤ 40) : malC (ls ++ [V]) = 0 ∧ malL (ls ++ [V]) = allE (ls ++ [V]) := by
  obtain ⟨h1, -, -⟩ := mal_zero h
  have hok : malOK (ls ++ [U]) = true := by
    rw [malC, if_pos h1] at h
    by_cases hk : malOK (ls ++ [U]) = true
    · exact hk
    · rw [if_neg hk] at h; cases h
  obtain ⟨h4, hR⟩ := layersP_zero.1 h1
  have hz : layersP (ls ++ [V]) = 0 := layersP_zero.2 ⟨by simpa using h4, fun es he => by
    rcases List.mem_append.1 he with he | he
    · exact hR es (List.mem_append_left _ he)
    · simp at he; subst he; exact hV⟩
  have hok2 : malOK (ls ++ [V]) = true := by
    rw [malOK, List.all_eq_true] at hok ⊢
    intro j hj
    have hj2 : j ≤ ls.length + 1 := by have := List.mem_range.1 hj; simp at this; omega
    by_cases hjl : j ≤ ls.length
    · have h5 := hok j (List.mem_range.2 (by simp; omega))
      rw [List.take_append_of_le_length hjl] at h5 ⊢
      exact h5
    · rw [List.take_of_length_le (by simp; omega)]
      exact decide_eq_true hl
  have hc : malC (ls ++ [V]) = 0 := by rw [malC, if_pos hz, if_pos hok2]
  exact ⟨hc, by rw [malL, if_pos hc]⟩
theorem home_of_wr {T : List En} {p : Bs} (h : wrS T p = 0) : homeC T p = 0 := by
  by_cases hh : homeC T p = 0
  · exact hh
  · rw [wrS, if_neg hh] at h; exact h
theorem home_of_mk {T : List En} {p : Bs} (h : mkS T p = 0) : homeC T p = 0 := by
  by_cases hh : homeC T p = 0
  · exact hh
  · rw [mkS, if_neg hh] at h; exact h
end Go.Proofs.YtebgfaohhhgdpaaGreat

namespace Go.Proofs.YtebgfaohhhgdpaaGreat
set_option linter.unusedVariables false

theorem fills_right {O U : List En} {e : En} {rep : Int} {V : List En} (hO : Right O) (hU : Right U) (he : entFault e = 0) (hd : ∀ u ∈ above e.path, ∀ x, findE U u = some x → dirK x.kind = true) (h : FillsO O U e rep V) : Right V := by
  by_cases hl : 12 < (fillS U e).length
  · rw [(h.1 hl).2]; exact hO
  · rw [(h.2 hl).2]; exact fill_right hU he hd (by omega)
theorem lows_fit {ls : List (List En)} {U : List En} (hR : ∀ es ∈ ls ++ [U], Right es) : FitT (allE ls) ∧ Right U := ⟨all_fit (rights_fit fun es he => hR es (List.mem_append_left _ he)), hR U (by simp)⟩
theorem wr_right {ls : List (List En)} {U : List En} {p : Bs} {zs : List Int} {rep : Int} {V : List En} (hR : ∀ es ∈ ls ++ [U], Right es) (hp : faultP p = 0) (hzl : zs.length ≤ 24) (h : WrS (allE (ls ++ [U])) U p (fileE p zs) rep V) : Right V := by
  obtain ⟨ht, hU⟩ := lows_fit hR
  by_cases hw : wrS (allE (ls ++ [U])) p = 0
  · exact fills_right hU hU (fileE_right hp hzl) (dirs_ok ht (right_fit.1 hU).1 hp (by rw [← allE_snoc]; exact home_of_wr hw)) (h.yes hw)
  · rw [(h.no hw).2]; exact hU
theorem mk_right {ls : List (List En)} {U : List En} {p : Bs} {rep : Int} {V : List En} (hR : ∀ es ∈ ls ++ [U], Right es) (hp : faultP p = 0) (h : MkS (allE (ls ++ [U])) U p rep V) : Right V := by
  obtain ⟨ht, hU⟩ := lows_fit hR
  obtain ⟨he, hep, -, -⟩ := dirF_ent (U := U) hp
  by_cases hw : mkS (allE (ls ++ [U])) p = 0
  · exact fills_right hU hU he (by rw [hep]; exact dirs_ok ht (right_fit.1 hU).1 hp (by rw [← allE_snoc]; exact home_of_mk hw)) (h.yes hw)
  · rw [(h.no hw).2]; exact hU
theorem rm_right {ls : List (List En)} {U : List En} {p : Bs} {rep : Int} {V : List En} (hR : ∀ es ∈ ls ++ [U], Right es) (hp : faultP p = 0) (h : RmS ls (allE (ls ++ [U])) U p rep V) : Right V := by
  obtain ⟨ht, hU⟩ := lows_fit hR
  have hr := right_restE hU hp
  by_cases hw : rmS (allE (ls ++ [U])) p = 0
  · cases hs : findE (allE (ls ++ [restE U p true])) p with
    | none => rw [(h.gone hw hs).2]; exact hr
    | some x =>
      have hT : FitT (allE (ls ++ [restE U p true])) := by rw [allE_snoc]; exact merge_fit ht (right_fit.1 hr).1
      have hh := home_seen hT hs
      rw [allE_snoc] at hh
      exact fills_right hU hr (whiteQ_ent hp) (dirs_ok ht (right_fit.1 hr).1 hp hh) (h.white hw (by rw [hs]; simp))
  · rw [(h.no hw).2]; exact hU
end Go.Proofs.YtebgfaohhhgdpaaGreat

namespace Go.Proofs.YtebgfaohhhgdpaaGreat
open Go.RowKit Go.Maps
set_option linter.unusedVariables false
attribute [local go_sem ↓] Go.wp_at_zero Go.wp_at_succ

/-- What is known of the names. -/
def PathNs (ns : List Bs) : Prop := ns.length ≤ 60 ∧ ∀ x ∈ ns, faultP x = 0 ∧ x.length ≤ 1048576
theorem PathNs.put {ns : List Bs} {p : Bs} {k : Nat} (h : ∀ x ∈ ns, faultP x = 0 ∧ x.length ≤ 1048576) (hp : faultP p = 0) (hl : p.length ≤ 1048576) : ∀ x ∈ putS ns p, faultP x = 0 ∧ x.length ≤ 1048576 := fun x hx => by
  rcases mem_putS.1 hx with rfl | hx
  · exact ⟨hp, hl⟩
  · exact h x hx
theorem box_set1 {w : World} {b : Nat} {u v : Value} (h : Box w b u v) (v' : Value) : Box (w.setCell ⟨b, 1, none⟩ v') b u v' :=
  ⟨⟨by rw [cell_set_other (by simp)]; exact h.1.1, cell_set_same h.1.2⟩, by rw [World.frozen?_setCell]; exact h.2.1, by rw [World.frozen?_setCell]; exact h.2.2⟩
set_option maxRecDepth 100000 in
set_option maxHeartbeats 6400000 in
theorem specPathsOver_names (a : Option Addr) (c n : Nat) (ls : List (List En)) (w : World) (h : RdL w a ls) (hn : n = ls.length) (hl : ls.length ≤ 1048576) (hs : SmallL ls) (hg : ∀ es ∈ ls, layFault es = layFaultP es) :
    Calls Tryz.prog 69 #[.slice a n c] w fun r w' => ∃ av cv ns, r = .returned (.agg #[.int .i64 (layersP ls), .slice av ns.length cv]) ∧ OwnS w.heap.size w' (.slice av ns.length cv) ns ∧ PathNs ns ∧ Below w.heap.size w w' := by
  subst hn
  have X0 := hide (Box.new w (.int .i64 0) (.slice none 0 0) 85)
  have B0 := hide (below_alloc w (.cells #[.int .i64 0, .slice none 0 0] 85))
  have HLF := hide (specLayersFault_any a c ls.length ls _ (h.below B0.out) rfl hl hs hg)
  have HR := hide h
  clear h hs hg
  by_cases hz : layersP ls = 0
  · obtain ⟨h4, hRs⟩ := layersP_zero.1 hz
    rw [hz] at HLF ⊢
    have HRi := hide hRs
    clear hz hRs
    go_enter Tryz.func69, Tryz.ntmps69
    go_wp2_with fail
    refine HLF.out.mono ?_
    rintro r w1 ⟨rfl, hb1⟩
    have B1 := hide (below_next B0.out hb1)
    have X1 := hide (X0.out.below hb1)
    have BB := hide (below_next B1.out (below_alloc w1 (.cells #[.int .i64 0, .slice none 0 0] 85)))
    have XO := hide (Box.new w1 (.int .i64 0) (.slice none 0 0) 85)
    have X2 := hide (X1.out.below (below_alloc w1 (.cells #[.int .i64 0, .slice none 0 0] 85)))
    have hlt1 : w.heap.size < w1.heap.size := X1.out.1.lt
    have hsz2 : (w1.alloc (.cells #[.int .i64 0, .slice none 0 0] 85)).heap.size = w1.heap.size + 1 := by simp
    clear hb1 X0 B0 HLF B1 X1
    obtain ⟨⟨t0, t1⟩, t2, t3⟩ := XO.out
    go_wp2_with fail
    clear t0 t1 t2 t3
    generalize w1.alloc (.cells #[.int .i64 0, .slice none 0 0] 85) = W2 at *
    generalize w1.heap.size = bO at *
    go_loopw [5] (fun i wr => ∃ (k m : Nat) (av : Option Addr) (cv : Nat) (ns : List Bs), k ≤ ls.length ∧ i = .int .i64 k ∧ ns.length ≤ m ∧ m ≤ 12 * k ∧ Hid (Box wr bO (.int .i64 0) (.slice av ns.length cv)) ∧ Hid (OwnS (bO + 1) wr (.slice av ns.length cv) ns) ∧ Hid (∀ x ∈ ns, faultP x = 0 ∧ x.length ≤ 1048576) ∧ Hid (Below w.heap.size w wr) ∧ Hid (Box wr w.heap.size (.int .i64 0) (.slice none 0 0)) ∧ bO < wr.heap.size) (fun i _ => ls.length - (intOf i).toNat)
    case atStart => exact ⟨0, 0, none, 0, [], Nat.zero_le _, rfl, Nat.zero_le _, Nat.zero_le _, XO, hide (OwnS.nil _ _), hide (by simp), BB, X2, by omega⟩
    case round =>
      obtain ⟨k, m, av, cv, ns, hk, rfl, hnm, hm, HX, HO, HN, HW, HZ, hbw⟩ := hrel
      by_cases hlt : k < ls.length
      · obtain ⟨b, off, es, x, cc, rfl, hb, he, c0, hr⟩ := HR.out.at hlt
        have hRi := HRi.out es (List.mem_of_getElem? he)
        have hel := hRi.len
        have HRE := hide hr
        have HRI := hide hRi
        have HSM := hide (right_small hRi)
        have KC : Hid (∀ w', Below w.heap.size w w' → w'.cell? ⟨b, off + k, none⟩ = some (.slice x es.length cc)) := hide (fun w' hb' => (hb'.cell (p := ⟨b, off + k, none⟩) hb).trans c0)
        have hk0 : (0 : Int) ≤ (k : Int) := by omega
        have hk1 : (k : Int) < (ls.length : Int) := by omega
        clear hr hRi he c0
        go_wp2_with fail
        go_loopw [6] (fun i wx => ∃ (j m : Nat) (av : Option Addr) (cv : Nat) (ns : List Bs), j ≤ es.length ∧ i = .int .i64 j ∧ ns.length ≤ m ∧ m ≤ 12 * k + j ∧ Hid (Box wx bO (.int .i64 0) (.slice av ns.length cv)) ∧ Hid (OwnS (bO + 1) wx (.slice av ns.length cv) ns) ∧ Hid (∀ x ∈ ns, faultP x = 0 ∧ x.length ≤ 1048576) ∧ Hid (Below w.heap.size w wx) ∧ Hid (Box wx w.heap.size (.int .i64 0) (.slice none 0 0)) ∧ bO < wx.heap.size) (fun i _ => es.length - (intOf i).toNat)
        case atStart => exact ⟨0, m, av, cv, ns, Nat.zero_le _, rfl, hnm, by omega, HX, HO, HN, HW, HZ, hbw⟩
        case round =>
          clear HX HO HN HW HZ hbw hnm hm
          obtain ⟨j, m, av, cv, ns, hj, rfl, hnm, hm, HX, HO, HN, HW, HZ, hbw⟩ := hrel
          have c0 := KC.out _ HW.out
          by_cases hlt2 : j < es.length
          · obtain ⟨bb, off2, e, y, yc, hxe, hbb, he, z0, z1, z2, z3, hrc⟩ := HRE.out.at hlt2
            subst hxe
            have hpf := entFault_zero (HRI.out.ent e (List.mem_of_getElem? he))
            have hsm := HSM.out e (List.mem_of_getElem? he)
            have KE : Hid (∀ w', Below w.heap.size w w' → w'.cell? ⟨bb, off2 + j * 4, none⟩ = some (.string (str e.path))) := hide (fun w' hb' => (hb'.cell (p := ⟨bb, off2 + j * 4, none⟩) hbb).trans z0)
            have e0 := KE.out _ HW.out
            have HPL := hide (l8Place_any (some ⟨b, off, none⟩) c ls.length ls e.path wr (HR.out.below HW.out) rfl h4 HRi.out hpf hsm.1)
            have hj0 : (0 : Int) ≤ (j : Int) := by omega
            have hj1 : (j : Int) < (es.length : Int) := by omega
            have HPF := hide hpf
            clear he hrc z0 z1 z2 z3 hpf
            obtain ⟨LN, hLN⟩ : ∃ LN, LN = ns.length := ⟨_, rfl⟩
            rw [← hLN] at HX HO hnm
            have HLN := hide hLN
            clear hLN
            cases hsn : seenL ls e.path with
            | none =>
              rw [hsn, show placeI none = -1 from rfl] at HPL
              clear hsn
              go_wp2_with fail
              refine HPL.out.mono ?_
              rintro r w3 ⟨rfl, hb3⟩
              have HX3 := hide (HX.out.below hb3)
              have HO3 := hide (HO.out.below hb3)
              have HW3 := hide (below_next HW.out hb3)
              have HZ3 := hide (HZ.out.below hb3)
              have hb3s := hb3.size
              clear hb3 HX HO HW HZ HPL c0 e0
              go_wp2_with fail
              go_roundw
              case rel =>
                have e9 := HLN.out
                subst e9
                exact ⟨j + 1, m, av, cv, ns, by omega, by go_num, hnm, by omega, HX3, HO3, HN, HW3, HZ3, by omega⟩
              case measure => simp [intOf]; omega
            | some q =>
              rw [hsn, show placeI (some q) = (q : Int) from rfl] at HPL
              clear hsn
              have hq0 : (0 : Int) ≤ (q : Int) := by omega
              go_wp2_with fail
              refine HPL.out.mono ?_
              rintro r w3 ⟨rfl, hb3⟩
              have HX3 := hide (HX.out.below hb3)
              have HO3 := hide (HO.out.below hb3)
              have HW3 := hide (below_next HW.out hb3)
              have HZ3 := hide (HZ.out.below hb3)
              have hb3s := hb3.size
              clear hb3 HX HO HW HZ HPL c0 e0
              have HIN := hide (l8In_any av cv LN ns e.path w3 HO3.out.reads HLN.out (by rw [← HLN.out]; omega))
              obtain ⟨⟨t0, t1⟩, t2, t3⟩ := HX3.out
              by_cases hmm : e.path ∈ ns
              · rw [decide_eq_true hmm] at HIN
                clear hmm
                go_wp2_with fail
                refine HIN.out.mono ?_
                rintro r w4 ⟨rfl, hw4⟩
                have hw5 := hw4.symm
                clear hw4
                subst hw5
                go_wp2_with fail
                go_roundw
                case rel =>
                  have e9 := HLN.out
                  subst e9
                  exact ⟨j + 1, m, av, cv, ns, by omega, by go_num, hnm, by omega, HX3, HO3, HN, HW3, HZ3, by omega⟩
                case measure => simp [intOf]; omega
              · rw [decide_eq_false hmm] at HIN
                clear hmm
                have HPU := hide (l8Put_any av cv LN ns e.path w3 HO3.out HLN.out (by rw [← HLN.out]; omega))
                go_wp2_with fail
                refine HIN.out.mono ?_
                rintro r w4 ⟨rfl, hw4⟩
                have hw5 := hw4.symm
                clear hw4
                subst hw5
                go_wp2_with fail
                refine HPU.out.mono ?_
                rintro r w6 ⟨av6, cv6, rfl, hO6, hb6⟩
                have HX6 := hide (HX3.out.below hb6)
                have HW6 := hide (below_next HW3.out hb6)
                have HZ6 := hide (HZ3.out.below hb6)
                have O6 := hide hO6
                have HPN := hide (PathNs.put (k := 0) HN.out HPF.out hsm.1)
                have HL6 := hide (putS_len ns e.path)
                have hb6s := hb6.size
                clear hO6 hb6 t0 t1 t2 t3
                obtain ⟨⟨t0, t1⟩, t2, t3⟩ := HX6.out
                generalize putS ns e.path = ns6 at *
                clear HPU HIN
                go_wp2_with fail
                go_roundw
                case rel =>
                  have e9 := HLN.out
                  have e8 := HL6.out
                  refine ⟨j + 1, m + 1, av6, cv6, ns6, by omega, by go_num, by omega, by omega, hide ?_, hide ?_, HPN, hide ?_, hide ?_, by simp [World.setCell]; omega⟩
                  · exact box_set1 HX6.out _
                  · exact (O6.out.mono (by omega)).kept (Kept.setCell (S := fun b => b = bO) (p := ⟨bO, 1, none⟩) (Kept.refl _ w6) (fun _ => rfl) _) (fun g hg hS => by have := (O6.out.lt g hg).1; omega)
                  · exact HW6.out.setCell (p := ⟨bO, 1, none⟩) (by show w.heap.size ≤ bO; omega) _
                  · exact HZ6.out.kept (Kept.setCell (S := fun b => b = bO) (p := ⟨bO, 1, none⟩) (Kept.refl _ w6) (fun _ => rfl) _) (by omega)
                case measure => simp [intOf]; omega
          · go_wp2_with fail
            go_roundw
            case rel => exact ⟨k + 1, m, av, cv, ns, by omega, by go_num, hnm, by omega, HX, HO, HN, HW, HZ, hbw⟩
            case measure => simp [intOf]; omega
      · obtain ⟨⟨t0, t1⟩, t2, t3⟩ := HX.out
        obtain ⟨⟨r0, r1⟩, r2, r3⟩ := HZ.out
        have hne : bO ≠ w.heap.size := by omega
        have HL60 := hide (show ns.length ≤ 60 by omega)
        have hown := HO.out
        have HOL := hide (fun g hg => (hown.lt g hg).1)
        clear hown
        go_wp2_with fail
        refine bodyPost_ret (v := .agg #[.int .i64 0, .slice av ns.length cv]) (by simp [results, Tryz.results69, go_sem, r0, r1]) rfl ⟨av, cv, ns, rfl, ?_, ⟨HL60.out, HN.out⟩, ?_⟩
        · exact (HO.out.kept (Kept.two wr w.heap.size 0 1 _ _) (fun g hg hS => by have := HOL.out g hg; omega)).mono (by omega)
        · exact (HW.out.setCell (p := ⟨w.heap.size, 0, none⟩) (Nat.le_refl _) _).setCell (p := ⟨w.heap.size, 1, none⟩) (Nat.le_refl _) _
  · generalize layersP ls = F at *
    have hz2 : (F != 0) = true := by simp; exact hz
    clear hz
    go_enter Tryz.func69, Tryz.ntmps69
    go_wp2_with fail
    refine HLF.out.mono ?_
    rintro r w1 ⟨rfl, hb1⟩
    have B1 := hide (below_next B0.out hb1)
    obtain ⟨⟨t0, t1⟩, t2, t3⟩ := X0.out.below hb1
    clear hb1
    go_wp2_with fail
    exact bodyPost_ret (v := .agg #[.int .i64 F, .slice none 0 0]) (by simp [results, Tryz.results69, go_sem, t0, t1]) rfl ⟨none, 0, [], rfl, OwnS.nil _ _, ⟨by decide, by simp⟩, (B1.out.setCell (p := ⟨w.heap.size, 0, none⟩) (Nat.le_refl _) _).setCell (p := ⟨w.heap.size, 1, none⟩) (Nat.le_refl _) _⟩
end Go.Proofs.YtebgfaohhhgdpaaGreat

