/-
  At every byte slice the law FnFiles returns true: a file's entry tells the digests of its bytes. No condition.
-/
import Derived.Test.YtbdbhdgfifojoaaIteF
import Derived.Test.YtbdbhdgfifojoaaIteG
import Derived.Test.YtbdbhdgfifojoaaIteP
import Derived.Test.YtbdbhdgfifojoaaDrawF
import Derived.ProofKit
import Derived.OpenShut
import Derived.ShutString
import Derived.ChangeOld
import Derived.Deep.DrawnRows
namespace Go.Proofs.Ytbdbhdgfifojoaa.fnFiles
open Go.ChangeShapes Go.WideShapes Go.ChangeAt Go.RowKit Go.Maps
set_option linter.unusedVariables false
attribute [local go_sem ↓] Go.wp_at_zero Go.wp_at_succ

theorem own : ownKnob Try.prog.godebug = none := by kernel_rfl
theorem laidOut : laidOutB Try.prog = true := by kernel_rfl

theorem lwBig_no (a : Option Addr) (cap : Nat) (n : Nat) (w : World) (h : n ≤ 1048576) :
    Calls Try.prog 8 #[.slice a n cap] w fun e w' => e = .returned (.bool false) ∧ w' = w := by
  have hb : ¬ (1048576 : Int) < (n : Int) := by omega
  go_enter Try.func8, Try.ntmps8
  go_wp2
  go_ret
  exact ⟨ret_bool (by simp <;> omega), rfl⟩
theorem lwBig_yes (a : Option Addr) (cap : Nat) (n : Nat) (w : World) (h : 1048576 < n) (h2 : n ≤ maxLen) :
    Calls Try.prog 8 #[.slice a n cap] w fun e w' => e = .returned (.bool true) ∧ w' = w := by
  have hb : (1048576 : Int) < (n : Int) := by omega
  unfold maxLen at h2
  go_enter Try.func8, Try.ntmps8
  go_wp2
  go_ret
  exact ⟨ret_bool (by simp <;> omega), rfl⟩
/-- What is told of the chunks of a file that is put into nothing. -/
theorem alone (e : En) : layFaultP (putListP [] e) = 0 ∧ (chunksListP (putListP [] e)).length ≤ e.chunks.length := by
  have hnil : layFaultP [] = 0 := right_P.2 right_nil
  by_cases h : putCodeP [] e = 0
  · have hR := (putP_zero h).2.2.2.2
    have e1 : putListP [] e = [e] := by rw [putListP, if_pos h]; rfl
    have e2 : putE [] e = [e] := rfl
    rw [e2] at hR
    rw [e1]
    refine ⟨right_P.2 hR, ?_⟩
    rw [chunksListP, if_pos (right_P.2 hR)]
    have := onceZ_le (allCh [e])
    simpa [allCh] using this
  · have e1 : putListP [] e = [] := by rw [putListP, if_neg h]
    rw [e1]
    refine ⟨hnil, ?_⟩
    rw [chunksListP, if_pos hnil]
    simp [allCh, onceZ]

set_option maxRecDepth 100000 in
set_option maxHeartbeats 16000000 in
theorem walk (a0 : Option Addr) (cap0 : Nat) (zs : List Int) (w : World) (h : Reads .u8 w a0 zs) (hu : U8 zs) (hmax : zs.length ≤ maxLen) :
    Calls Try.prog 7 #[.slice a0 zs.length cap0] w fun e w' => e = .returned (.bool true) ∧ Below w.heap.size w w' := by
  have HR := hide h
  have HU := hide hu
  clear h hu
  by_cases hbig : 1048576 < zs.length
  · go_enter Try.func7, Try.ntmps7
    go_wp2_with fail
    refine (lwBig_yes _ _ _ _ hbig hmax).mono ?_
    rintro e w1 ⟨rfl, rfl⟩
    go_wp2_with fail
    go_ret
    exact ⟨rfl, Below.refl _ _⟩
  · go_enter Try.func7, Try.ntmps7
    go_wp2_with fail
    refine (lwBig_no _ _ _ _ (by omega)).mono ?_
    rintro e w1 ⟨rfl, rfl⟩
    go_wp2_with fail
    refine (drawFileEntry_any a0 cap0 zs _ HR.out HU.out (by omega)).mono ?_
    rintro e w2 ⟨P, v, ds, rfl, hPl, hdl, hdu, ho2, hb2⟩
    obtain ⟨av, cv, rfl⟩ := ownsRow_shape ho2
    have hcap := ownsRow_cap ho2
    have RD := hide (ownInts_reads ho2 rfl)
    have DU := hide hdu
    have B2 := hide hb2
    clear ho2 hb2 hdu
    go_wp2_with fail
    refine (implFileEntry_any P av cv ds.length ds _ RD.out rfl DU.out hcap (by omega) (by omega)).mono ?_
    rintro r w3 ⟨av3, cv3, rfl, hG3, hb3⟩
    have G3 := hide hG3
    have X3 := hide (Box.new w3 (.int .i64 (fileCode P ds)) (.slice av3 (fileList P ds).length cv3) 72)
    have BA := hide (below_alloc w3 (.cells #[.int .i64 (fileCode P ds), .slice av3 (fileList P ds).length cv3] 72))
    have B3 := hide (below_next (below_next B2.out hb3) BA.out)
    have RD3 := hide ((RD.out.below hb3).below BA.out)
    have G3' := hide (G3.out.below BA.out)
    clear hG3 hb3 RD B2 G3
    by_cases hc : fileCode P ds = 0
    · have hF : faultP P = 0 ∧ ds.length ≤ 24 := by
        unfold fileCode at hc
        by_cases hf : faultP P = 0
        · rw [if_pos hf] at hc
          by_cases hl : 24 < ds.length
          · rw [if_pos hl] at hc; cases hc
          · exact ⟨hf, by omega⟩
        · rw [if_neg hf] at hc; exact absurd hc hf
      have hL : fileList P ds = [fileE P ds] := by rw [fileList, if_pos hc]
      have hl1 : (fileList P ds).length = 1 := by rw [hL]; rfl
      rw [hc, hl1] at X3 BA B3 RD3 G3' ⊢
      rw [hL] at G3'
      have HEF := hide (fileE_right hF.1 hF.2)
      have HFP := hide hF.1
      have hd24 := hF.2
      clear hc hL hl1 hF
      go_wp2_with fail
      generalize w3.alloc (.cells #[.int .i64 0, .slice av3 1 cv3] 72) = W3 at *
      generalize w3.heap.size = b3 at *
      obtain ⟨⟨t0, t1⟩, t2, t3⟩ := X3.out
      go_wp2_with fail
      refine (implDigestsOf_ok av cv ds _ RD3.out DU.out hcap hd24).mono ?_
      rintro r w4 ⟨v4, rfl, ho4, hb4⟩
      obtain ⟨av4, cv4, rfl⟩ := ownsRow_shape ho4
      have hls := digs_len ds
      have BA4 := hide (below_next hb4 (below_alloc w4 (.cells #[.int .i64 0, .slice av4 (cut ds).length cv4] 31)))
      have RD4 := hide ((ownInts_reads (zs := digs ds (cut ds).length) ho4 hls.symm).below (below_alloc w4 (.cells #[.int .i64 0, .slice av4 (cut ds).length cv4] 31)))
      have Y4 := hide (Box.new w4 (.int .i64 0) (.slice av4 (cut ds).length cv4) 31)
      have X4 := hide (X3.out.below BA4.out)
      have G4 := hide (G3'.out.below BA4.out)
      have B4 := hide (below_next B3.out BA4.out)
      clear ho4 hb4 X3 G3' B3 RD3 BA t0 t1 t2 t3
      have hcl : (cut ds).length ≤ 3 := by rw [cut_length]; omega
      obtain ⟨g, rfl, -⟩ := G4.out.addr rfl (.inl (by decide))
      obtain ⟨b, off, e, x, cc, hbb, hb, he, c0, c1, c2, c3, hr⟩ := G4.out.rd.at (k := 0) (by simp)
      simp only [Option.some.injEq, Addr.mk.injEq, and_true] at hbb
      obtain ⟨rfl, rfl⟩ := hbb
      simp only [List.getElem?_cons_zero, Option.some.injEq] at he
      subst he
      have hch : (fileE P ds).chunks = digs ds (cut ds).length := rfl
      have hchl : (fileE P ds).chunks.length = (cut ds).length := hls
      rw [hchl] at c3
      rw [hch] at hr
      simp only [Nat.zero_mul, Nat.add_zero] at c0 c1 c2 c3
      have HRx := hide hr
      clear hr
      go_wp2_with fail
      have hs6 : w4.heap.size < (w4.alloc (.cells #[.int .i64 0, .slice av4 (cut ds).length cv4] 31)).heap.size := by simp
      generalize (w4.alloc (.cells #[.int .i64 0, .slice av4 (cut ds).length cv4] 31)) = W4 at *
      generalize w4.heap.size = b6 at *
      have c0' : W4.cell? ⟨g, 0, none⟩ = some (.string (str P)) := c0
      have c1' : W4.cell? ⟨g, 1, none⟩ = some (.int .i64 1) := by rw [Nat.zero_add] at c1; exact c1
      have c2' : W4.cell? ⟨g, 2, none⟩ = some (.int .i64 ds.length) := by rw [Nat.zero_add] at c2; exact c2
      have c3' : W4.cell? ⟨g, 3, none⟩ = some (.slice x (cut ds).length cc) := by rw [Nat.zero_add] at c3; exact c3
      clear c0 c1 c2 c3
      have hb3w := X4.out.1.lt
      have KC : Hid (∀ w' : World, Below W4.heap.size W4 w' → w'.cell? ⟨b3, 0, none⟩ = some (.int .i64 0) ∧ w'.cell? ⟨b3, 1, none⟩ = some (.slice (some ⟨g, 0, none⟩) 1 cv3) ∧ w'.cell? ⟨b6, 1, none⟩ = some (.slice av4 (cut ds).length cv4) ∧ w'.cell? ⟨g, 0, none⟩ = some (.string (str P)) ∧ w'.cell? ⟨g, 1, none⟩ = some (.int .i64 1) ∧ w'.cell? ⟨g, 2, none⟩ = some (.int .i64 ds.length) ∧ w'.cell? ⟨g, 3, none⟩ = some (.slice x (cut ds).length cc)) := hide (fun w' hb' => by
        obtain ⟨⟨t0, t1⟩, -, -⟩ := X4.out.below hb'
        obtain ⟨⟨u0, u1⟩, -, -⟩ := Y4.out.below hb'
        exact ⟨t0, t1, u1, (hb'.cell (p := ⟨g, 0, none⟩) hb).trans c0', (hb'.cell (p := ⟨g, 1, none⟩) hb).trans c1', (hb'.cell (p := ⟨g, 2, none⟩) hb).trans c2', (hb'.cell (p := ⟨g, 3, none⟩) hb).trans c3'⟩)
      have HLW : Hid (∀ u, Below W4.heap.size W4 u → Calls Try.prog 30 #[.slice x (cut ds).length cc, .slice av4 (cut ds).length cv4] u fun e w' => e = .returned (.bool true) ∧ Below u.heap.size u w') := hide (fun u hb' => by
        have := lwNums_e x av4 cc cv4 (digs ds (cut ds).length) u (HRx.out.below hb') (RD4.out.below hb') (by rw [hls]; omega)
        rw [hls] at this
        exact this)
      have HEC : Hid (∀ u, Below W4.heap.size W4 u → Calls Try.prog 45 #[.agg #[.string (str P), .int .i64 1, .int .i64 ds.length, .slice x (cut ds).length cc]] u fun r w' => r = .returned (.int .i64 0) ∧ Below u.heap.size u w') := hide (fun u hb' => by
        have := implEntryFault_any (fileE P ds) x cc (cut ds).length u (HRx.out.below hb') hchl.symm (by show P.length ≤ 1048576; omega) (by rw [hchl]; omega)
        rw [HEF.out] at this
        exact this)
      have HPC : Hid (∀ u, Below W4.heap.size W4 u → Calls Try.prog 47 #[.slice none 0 0, .agg #[.string (str P), .int .i64 1, .int .i64 ds.length, .slice x (cut ds).length cc]] u (ResE (putCodeP [] (fileE P ds)) (putListP [] (fileE P ds)) u)) := hide (fun u hb' =>
        implPutEntry_any none 0 0 [] (fileE P ds) x (cut ds).length cc u (fun h => absurd rfl h) rfl (by simp) (fun e he => by simp at he) hchl.symm (HRx.out.below hb') (by show P.length ≤ 1048576; omega) (by rw [hchl]; omega))
      have HAL := hide (alone (fileE P ds))
      rw [hchl] at HAL
      have HSM := hide (show SmallE (putListP [] (fileE P ds)) ∧ (putListP [] (fileE P ds)).length ≤ 1 from by
        unfold putListP
        by_cases hq : putCodeP [] (fileE P ds) = 0
        · rw [if_pos hq]
          refine ⟨fun e he => ?_, by simp [putE, putAt, baseE]⟩
          have : e = fileE P ds := by rcases mem_putE.1 he with h | ⟨h, _⟩; exact h; simp at h
          subst this
          exact ⟨by show P.length ≤ 1048576; omega, by rw [hchl]; omega⟩
        · rw [if_neg hq]
          exact ⟨fun e he => by simp at he, by simp⟩)
      generalize putCodeP [] (fileE P ds) = pq at *
      generalize putListP [] (fileE P ds) = pl at *
      clear hchl hch HRx hls
      have hne1 : ((ds.length : Int) != (ds.length : Int)) = false := by simp
      obtain ⟨t0, t1, u1, c0, c1, c2, c3⟩ := KC.out _ (Below.refl _ _)
      clear c0' c1' c2' c3' X4 Y4 RD4 G4
      go_region_held3 (fun w' => w'.cell? ⟨b3, 0, none⟩ = some (.int .i64 0) ∧ w'.cell? ⟨b3, 1, none⟩ = some (.slice (some ⟨g, 0, none⟩) 1 cv3) ∧ w'.cell? ⟨b6, 1, none⟩ = some (.slice av4 (cut ds).length cv4) ∧ w'.cell? ⟨g, 0, none⟩ = some (.string (str P)) ∧ w'.cell? ⟨g, 1, none⟩ = some (.int .i64 1) ∧ w'.cell? ⟨g, 2, none⟩ = some (.int .i64 ds.length) ∧ w'.cell? ⟨g, 3, none⟩ = some (.slice x (cut ds).length cc)) (first | exact KC.out _ BB5.out | exact KC.out _ BB6.out | go_keep)
        ((first
          | (go_at_call 30; refine (HLW.out _ (Below.refl _ _).drew).mono ?_; rintro r w5 ⟨rfl, hb5⟩; have BB5 := hide ((Below.refl W4.heap.size W4).drew.trans hb5); clear hb5)
          | (go_at_call 45; refine (HEC.out _ BB5.out).mono ?_; rintro r w6 ⟨rfl, hb6⟩; have BB6 := hide (below_next BB5.out hb6); clear hb6)))
      clear t0 t1 u1 c0 c1 c2 c3
      obtain ⟨t0, t1, u1, c0, c1, c2, c3⟩ := KC.out _ BB6.out
      go_wp2_with fail
      refine (HPC.out _ BB6.out).mono ?_
      rintro r w7 ⟨av7, cv7, rfl, hG7, hb7⟩
      have RD7 := hide hG7.rd
      have BB7 := hide (below_next BB6.out hb7)
      clear hG7 hb7 HPC t0 t1 u1 c0 c1 c2 c3
      have hpl := HSM.out.2
      have hfd : ∀ w : World, (Instr.field 72 (.agg #[.int .i64 pq, .slice av7 pl.length cv7]) 1).run Try.prog w = .ok (.slice av7 pl.length cv7) w := fun _ => by kernel_rfl
      go_wp2_with fail
      refine (implChunksIn_any av7 cv7 pl.length pl _ RD7.out rfl (by omega) HSM.out.1).mono ?_
      rintro r w8 ⟨av8, cv8, rfl, ho8, hb8⟩
      rw [HAL.out.1]
      have hcle : ((chunksListP pl).length : Int) ≤ ((cut ds).length : Int) := by have := HAL.out.2; omega
      have BB8 := hide (below_next BB7.out hb8)
      have hlt6 : b6 < w8.heap.size := by have := BB8.out.size; omega
      obtain ⟨-, -, u1, -, -, -, -⟩ := KC.out _ BB8.out
      have Z8 := hide (Box.new w8 (.int .i64 0) (.slice av8 (chunksListP pl).length cv8) 31)
      have BA8 := hide (below_alloc w8 (.cells #[.int .i64 0, .slice av8 (chunksListP pl).length cv8] 31))
      have BB8' := hide (below_next BB8.out BA8.out)
      clear ho8 hb8 BA8
      go_wp2_with fail
      generalize w8.alloc (.cells #[.int .i64 0, .slice av8 (chunksListP pl).length cv8] 31) = W8 at *
      generalize w8.heap.size = b8 at *
      refine (implPathFault_any (str P) _ (by rw [str_size]; omega)).mono ?_
      rintro r w9 ⟨rfl, hb9⟩
      rw [str_data, HFP.out]
      obtain ⟨⟨z0, z1⟩, -, -⟩ := Z8.out.below hb9
      have BB9 := hide (below_next BB8'.out hb9)
      obtain ⟨-, -, u1', -, -, -, -⟩ := KC.out _ BB9.out
      clear hb9 u1
      go_wp2_with fail
      go_ret
      exact ⟨rfl, below_next B4.out BB9.out⟩
    · have hne : (fileCode P ds != 0) = true := by simp; exact hc
      clear hc
      have HSP : Hid (∀ u, Below (w3.alloc (.cells #[.int .i64 (fileCode P ds), .slice av3 (fileList P ds).length cv3] 72)).heap.size (w3.alloc (.cells #[.int .i64 (fileCode P ds), .slice av3 (fileList P ds).length cv3] 72)) u → Calls Try.prog 44 #[.string (str P), .slice av ds.length cv] u (ResE (fileCode P ds) (fileList P ds) u)) := hide (fun u hb' =>
        specFileEntry_any P av cv ds.length ds u (RD3.out.below hb') rfl DU.out hcap (by omega))
      generalize fileCode P ds = F at *
      generalize fileList P ds = LL at *
      go_wp2_with fail
      generalize w3.alloc (.cells #[.int .i64 F, .slice av3 LL.length cv3] 72) = W3 at *
      generalize w3.heap.size = b3 at *
      obtain ⟨⟨t0, t1⟩, t2, t3⟩ := X3.out
      have hFF : (F == F) = true := by simp
      have hfd : ∀ (a : Option Addr) (c : Nat) (w : World), (Instr.field 72 (.agg #[.int .i64 F, .slice a LL.length c]) 0).run Try.prog w = .ok (.int .i64 F) w := fun _ _ _ => by kernel_rfl
      go_wp2_with fail
      go_region_held3 (fun w' => w'.cell? ⟨b3, 0, none⟩ = some (.int .i64 F)) (first | exact (X3.out.below BB5.out).1.1 | go_keep)
        ((first
          | (go_at_call 44; refine (HSP.out _ (Below.refl _ _).drew).mono ?_; rintro r w5 ⟨av5, cv5, rfl, -, hb5⟩; have BB5 := hide ((Below.refl W3.heap.size W3).drew.trans hb5); clear hb5)))
      go_wp2_with fail
      go_ret
      exact ⟨rfl, below_next B3.out BB5.out⟩

set_option maxRecDepth 100000 in
theorem lifted (os : Os) (started : os.Started) (H : Type) (enc : TypeId × Value → H) :
    ReturnsInHanded {} Try.checked os 7 .any (Rows.fnFilesSpec.pre6 enc Try.prog Try.f7 Rows.fnFilesRow.domain false) (Rows.fnFilesSpec.post enc Try.prog Try.f7 false true false false) := by
  refine returnsInHanded_of_change (C := Try.checked) own started (by kernel_rfl) Try.func7
    (ChangeSpec.witness6 (enc := enc) (C := Try.checked) false ⟨#[], #[.slice none 0 0], []⟩ 8 (by kernel_rfl) (by kernel_rfl) (by kernel_rfl) (by kernel_rfl)) ?_
  intro W base args ds gs before hval0 hW hcnd _
  have hval : ∀ (j : Nat) t v, Try.f7.params[j]? = some t → args[j]? = some v → Value.okWide Try.prog W .any base t v := hval0
  have hW' := hW
  obtain ⟨p, q, hA0, hV, rfl, hfz, hnd⟩ := hW
  have hA : DataW.TrodAll enc Try.prog W 0 (fun _ => true) true Try.f7.params.toList args.toList ds p := hA0
  rw [Try.params7] at hA hval
  obtain ⟨v0, vs0, d0, ds0, p0, q0, hargs, rfl, rfl, h0, r0⟩ := trodAll_cons hA
  obtain ⟨rfl, rfl, rfl⟩ := trodAll_nil r0
  obtain rfl : args = #[v0] := by cases args; simp_all
  obtain ⟨rfl, rfl⟩ := trodVars_none hV
  obtain ⟨a0, len0, cap0, rfl⟩ := okWide_slice Try.underlying22 (hval 0 22 v0 rfl rfl)
  have k0 := h0
  have lt0 : ∀ x ∈ p0, x.block < W.heap.size := by obtain ⟨m, hm⟩ := k0; exact DataW.trod_lt m _ _ _ hm
  obtain ⟨zs, hlen, hread, hu, hmax⟩ : ∃ zs : List Int, zs.length = len0 ∧ Reads .u8 W a0 zs ∧ U8 zs ∧ zs.length ≤ maxLen := by
    obtain ⟨fuel, hf⟩ := h0
    rcases open_ints Try.underlying22 Try.underlying5 (by kernel_rfl) hf with ⟨hcs, _⟩ | ⟨x, l, c, zs, hcs, _, hl, hm, hz, _, hcell, hwz⟩
    · simp [Value.cells] at hcs
      obtain ⟨rfl, rfl, rfl⟩ := hcs
      exact ⟨[], rfl, fun h => absurd rfl h, fun z hz => by simp at hz, Nat.zero_le _⟩
    · simp [Value.cells] at hcs
      obtain ⟨rfl, rfl, rfl⟩ := hcs
      exact reads_of_row (by simpa using hz) hl hm hcell hwz
  subst hlen
  clear hA0 hval0
  refine (walk a0 cap0 zs W hread hu hmax).mono fun e W' ⟨he, bel⟩ => ?_
  subst he
  exact ⟨_, rfl, _, _, _, [], _, [], hW', trodAll_mk1 (shut_bool Try.underlying4 _), (trodAll_cons_mk (Below.trod laidOut (by kernel_rfl) (of_decide_eq_true (by kernel_rfl)) k0 bel lt0) trodAll_mk0), rfl, bel.frame _, fun h => by cases h⟩

theorem over : Rows.fnFilesRow.holds Try.pinned (OpenSpec.ofChange Rows.fnFilesSpec) :=
  OpenClaim.holds_of_wide 7 Try.f7 rfl rfl rfl rfl rfl rfl rfl ⟨rfl, rfl, rfl, rfl, rfl⟩ rfl rfl rfl rfl rfl (by kernel_rfl) Try.func7 (by kernel_rfl)
    (of_decide_eq_true (by kernel_rfl)) (by unfold Func.isWrapper; first | (rw [if_pos (by decide +kernel)]; kernel_rfl) | (rw [if_neg (by decide +kernel)]; exact ⟨rfl, rfl⟩))
    (fun os started H enc _ => lifted os started H enc)

end Go.Proofs.Ytbdbhdgfifojoaa.fnFiles
namespace Go.Proofs.Ytbdbhdgfifojoaa
theorem fnFiles_holds : Rows.FnFilesSaid := fnFiles.over
#print axioms fnFiles_holds
end Go.Proofs.Ytbdbhdgfifojoaa
