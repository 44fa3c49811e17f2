/-
  At every byte slice the law FnChunks returns true: what is put is there, if it is of its digest. No condition.
-/
import Derived.Test.YtdebojhginiihaaDropC
import Derived.Test.YtdebojhginiihaaDrawCh
import Derived.ProofKit
import Derived.OpenShut
import Derived.ShutString
import Derived.ChangeOld
import Derived.Laws.BytesArg
namespace Go.Proofs.Ytdebojhginiihaa.fnChunks
open Go.ChangeShapes Go.WideShapes Go.ChangeAt Go.RowKit
set_option linter.unusedVariables false
attribute [local go_sem ↓] Go.wp_at_zero Go.wp_at_succ

theorem own : ownKnob Try.prog.godebug = none := by kernel_rfl
theorem laidOut : laidOutB Try.prog = true := by kernel_rfl

theorem lwBig_no (a : Option Addr) (cap : Nat) (n : Nat) (w : World) (h : n ≤ 1048576) :
    Calls Try.prog 6 #[.slice a n cap] w fun e w' => e = .returned (.bool false) ∧ w' = w := by
  have hb : ¬ (1048576 : Int) < (n : Int) := by omega
  go_enter Try.func6, Try.ntmps6
  go_wp2
  go_ret
  exact ⟨ret_bool (by simp <;> omega), rfl⟩
theorem lwBig_yes (a : Option Addr) (cap : Nat) (n : Nat) (w : World) (h : 1048576 < n) (h2 : n ≤ maxLen) :
    Calls Try.prog 6 #[.slice a n cap] w fun e w' => e = .returned (.bool true) ∧ w' = w := by
  have hb : (1048576 : Int) < (n : Int) := by omega
  unfold maxLen at h2
  go_enter Try.func6, Try.ntmps6
  go_wp2
  go_ret
  exact ⟨ret_bool (by simp <;> omega), rfl⟩

theorem conv_reads {w : World} {a : Option Addr} {c : Nat} {ds : List Int} (h : Reads .u8 w a ds) (h0 : ds ≠ []) :
    Sem.run Try.prog (convert 22 9 (.slice a ds.length c)) w = .ok (.string (strOfNums ds)) w := by
  obtain ⟨b, off, rfl, hb, hc⟩ := h h0
  exact run_convert_bytes_arg (P := Try.prog) w 22 5 Try.underlying22 Try.underlying5 b off ds.length c ds rfl hc 9 Try.underlying9

/-- What the program and the model answer alike. -/
def Alike (D : Nat → Int) (P : Nat → List Int) (n cv : Nat) (g : Nat) (d : Int) (av : Option Addr) (ac : Nat) (ds : List Int) (q : Int) : Prop :=
  (∀ u : World, RdC u (some ⟨g, 0, none⟩) D P n → Reads .u8 u av ds → Calls Try.prog 18 #[.slice (some ⟨g, 0, none⟩) n cv, .int .i64 d, .slice av ds.length ac] u (ResC q D P 0 u)) ∧
  (∀ u : World, RdC u (some ⟨g, 0, none⟩) D P n → Reads .u8 u av ds → Calls Try.prog 19 #[.slice (some ⟨g, 0, none⟩) n cv, .int .i64 d, .slice av ds.length ac] u (ResC q D P 0 u))
/-- The chunk is there, and all that was there. -/
structure There (D : Nat → Int) (P : Nat → List Int) (n cv : Nat) (g : Nat) (d : Int) (av : Option Addr) (ac : Nat) (ds : List Int) (D' : Nat → Int) (P' : Nat → List Int) (n' m : Nat) : Prop where
  put : ∀ u : World, RdC u (some ⟨g, 0, none⟩) D P n → Reads .u8 u av ds → Calls Try.prog 18 #[.slice (some ⟨g, 0, none⟩) n cv, .int .i64 d, .slice av ds.length ac] u (ResC 0 D' P' n' u)
  right : Right D' P' n'
  bytes : ∀ i, i < n' → U8 (P' i) ∧ (P' i).length ≤ 1048576
  at_ : m < n'
  dig : D' m = d
  all : ∀ i, i < n → D i ≠ d → ∃ j, j < n' - 1 ∧ del D' m j = D i ∧ del P' m j = P i
  ones : ∀ i, i < n → P i ≠ []

theorem del_at {D' : Nat → Int} {P' : Nat → List Int} {n' m j : Nat} (hj : j < n') (hm : m < n') (hne : j ≠ m) : ∃ i, i < n' - 1 ∧ del D' m i = D' j ∧ del P' m i = P' j := by
  by_cases h : j < m
  · exact ⟨j, by omega, by simp [del, h], by simp [del, h]⟩
  · have h2 : ¬ j - 1 < m := by omega
    have h3 : j - 1 + 1 = j := by omega
    exact ⟨j - 1, by omega, by simp [del, h2, h3], by simp [del, h2, h3]⟩

theorem del_right {D' : Nat → Int} {P' : Nat → List Int} {n' m : Nat} (hR : Right D' P' n') (hm : m < n') : Right (del D' m) (del P' m) (n' - 1) := by
  have h40 := hR.many
  refine ⟨by omega, fun i hi => ?_, fun i hi => ?_, fun i hi => ?_, fun i hi => del_up hR hm i (i + 1) (by omega) hi⟩
  all_goals
    unfold del
    by_cases e : i < m
    · simp only [if_pos e]
      first | exact hR.range i (by omega) | exact hR.len i (by omega) | exact hR.sum i (by omega)
    · simp only [if_neg e]
      first | exact hR.range (i + 1) (by omega) | exact hR.len (i + 1) (by omega) | exact hR.sum (i + 1) (by omega)

theorem cases_put (D : Nat → Int) (P : Nat → List Int) (n cv : Nat) (g : Nat) (d : Int) (av : Option Addr) (ac : Nat) (ds : List Int) (hcv : n ≤ cv) (hn : n ≤ 41) (hP : ∀ i, i < n → U8 (P i) ∧ (P i).length ≤ 1048576) (hu : U8 ds) (hl : ds.length ≤ 1048576) :
    (∃ q, q ≠ 0 ∧ Alike D P n cv g d av ac ds q) ∨ (0 ≤ d ∧ d ≤ 4294967295 ∧ oneFault d ds = 0 ∧ ∃ D' P' n' m, There D P n cv g d av ac ds D' P' n' m) := by
  have hn1 : n ≤ 1048576 := by omega
  by_cases hF : fault D P n = 0
  · have hR := fault_zero hF
    have hones : ∀ i, i < n → P i ≠ [] := fun i hi e => by have := (hR.len i hi).1; rw [e] at this; simp at this
    by_cases hO : oneFault d ds = 0
    · obtain ⟨hdr, hdl, hds⟩ := oneFault_zero hO
      by_cases hd : ∃ i, i < n ∧ D i = d
      · obtain ⟨m, hm, hdm⟩ := hd
        refine .inr ⟨hdr.1, hdr.2, hO, D, P, n, m, ⟨fun u hr hr2 => implPut_there _ cv n D P d av ac ds u hr hn1 hP hF hr2 hu hl hO ⟨m, hm, hdm⟩, hR, hP, hm, hdm, fun i hi hne => del_at hi hm (fun e => hne (by rw [e]; exact hdm)), hones⟩⟩
      · have hd' : ∀ j, j < n → D j ≠ d := fun j hj e => hd ⟨j, hj, e⟩
        by_cases hf : 40 ≤ n
        · exact .inl ⟨2, by decide, fun u hr hr2 => implPut_full _ cv n D P d av ac ds u hr hn1 hP hF hr2 hu hl hO hd' hf, fun u hr hr2 => specPut_full g 0 cv n D P d av ac ds u hr hn1 hP hF hr2 hu hl hO hcv hd' hf⟩
        · obtain ⟨m, hm, hlow, hhigh⟩ := place (D := D) d n
          have hup := ins_up hR hm hlow hhigh hd'
          have hR' : Right (ins D m d) (ins P m ds) (n + 1) := by
            refine ⟨by omega, fun i hi => ?_, fun i hi => ?_, fun i hi => ?_, fun i hi => hup i (i + 1) (by omega) hi⟩
            all_goals
              unfold ins
              by_cases e1 : i < m
              · simp only [if_pos e1]
                first | exact hR.range i (by omega) | exact hR.len i (by omega) | exact hR.sum i (by omega)
              · simp only [if_neg e1]
                by_cases e2 : i = m
                · first | (simp only [if_pos e2]; exact hdr) | (simp only [if_pos e2]; exact hdl) | (simp only [if_pos e2]; exact hds)
                · simp only [if_neg e2]
                  first | exact hR.range (i - 1) (by omega) | exact hR.len (i - 1) (by omega) | exact hR.sum (i - 1) (by omega)
          have hb' : ∀ i, i < n + 1 → U8 (ins P m ds i) ∧ (ins P m ds i).length ≤ 1048576 := fun i hi => by
            unfold ins
            by_cases e1 : i < m
            · simp only [if_pos e1]; exact hP i (by omega)
            · simp only [if_neg e1]
              by_cases e2 : i = m
              · simp only [if_pos e2]; exact ⟨hu, hl⟩
              · simp only [if_neg e2]; exact hP (i - 1) (by omega)
          refine .inr ⟨hdr.1, hdr.2, hO, ins D m d, ins P m ds, n + 1, m, ⟨fun u hr hr2 => implPut_new _ cv n D P d av ac ds u hr hn1 hP hF hr2 hu hl hO m hd' (by omega) hm hlow hhigh, hR', hb', by omega, by simp [ins], fun i hi hne => ?_, hones⟩⟩
          refine ⟨i, by omega, ?_, ?_⟩
          all_goals
            by_cases e1 : i < m
            · simp [del, ins, e1]
            · have e2 : ¬ i + 1 < m := by omega
              have e3 : ¬ i + 1 = m := by omega
              simp [del, ins, e1, e2, e3]
    · exact .inl ⟨oneFault d ds, hO, fun u hr hr2 => implPut_one _ cv n D P d av ac ds u hr hn1 hP hF hr2 hu hl hO, fun u hr hr2 => specPut_one _ cv n D P d av ac ds u hr hn1 hP hF hr2 hu hl hO⟩
  · exact .inl ⟨fault D P n, hF, fun u hr hr2 => implPut_bad _ cv n D P d av ac ds u hr hn1 hP hF, fun u hr hr2 => specPut_bad _ cv n D P d av ac ds u hr hn1 hP hF⟩

set_option maxRecDepth 100000 in
set_option maxHeartbeats 6400000 in
theorem walk (a0 : Option Addr) (cap0 : Nat) (zs : List Int) (w : World) (h : Reads .u8 w a0 zs) (hu : U8 zs) (hmax : zs.length ≤ maxLen) :
    Calls Try.prog 4 #[.slice a0 zs.length cap0] w fun e w' => e = .returned (.bool true) ∧ Below w.heap.size w w' := by
  by_cases hbig : 1048576 < zs.length
  · go_enter Try.func4, Try.ntmps4
    go_wp2_with fail
    refine (lwBig_yes _ _ _ _ hbig hmax).mono ?_
    rintro e w1 ⟨rfl, rfl⟩
    go_wp2_with fail
    go_ret
    exact ⟨rfl, Below.refl _ _⟩
  · have hl : zs.length ≤ 1048576 := by omega
    have HR := hide h
    have HU := hide hu
    clear h hu hbig hmax
    go_enter Try.func4, Try.ntmps4
    go_wp2_with fail
    refine (lwBig_no _ _ _ _ hl).mono ?_
    rintro e w0 ⟨rfl, rfl⟩
    go_wp2_with fail
    refine (drawPutChunk_any a0 cap0 zs _ HR.out HU.out hl).mono ?_
    rintro e w1 ⟨g, cv, n, D, P, d, av, ac, ds, rfl, hcv, hn41, hL, hRd, hd0, hd1, hRds, hUds, hds9, hac, b1⟩
    have hP : ∀ i, i < n → U8 (P i) ∧ (P i).length ≤ 1048576 := fun i hi => ⟨(hL i hi).1, by have := (hL i hi).2; omega⟩
    have hcase := cases_put D P n cv g d av ac ds hcv hn41 hP hUds (by omega)
    have L1 := hide hRd
    have R1 := hide hRds
    have UD := hide hUds
    have B1 := hide b1
    clear hL hRd hRds hUds b1 hP
    rcases hcase with ⟨q, hq, hal⟩ | ⟨hdr0, hdr1, hO, D', P', n', m, hth⟩
    · have hne : (q != 0) = true := by simpa using hq
      have HI := hide hal.1
      have HS := hide hal.2
      clear hal hq
      go_wp2_with fail
      refine (HI.out _ L1.out R1.out).mono ?_
      rintro e w2 ⟨ra, rc, rfl, -, b2⟩
      have T2 := hide (Two.new w2 (.int .i64 q) (.slice ra 0 rc) 45)
      have L2 : Hid (RdC (w2.alloc (.cells #[.int .i64 q, .slice ra 0 rc] 45)).drew (some ⟨g, 0, none⟩) D P n) := L1.out.below (below_next b2 (below_alloc _ _)).drew
      have R2 : Hid (Reads .u8 (w2.alloc (.cells #[.int .i64 q, .slice ra 0 rc] 45)).drew av ds) := R1.out.below (below_next b2 (below_alloc _ _)).drew
      have B2 : Hid (Below w0.heap.size w0 (w2.alloc (.cells #[.int .i64 q, .slice ra 0 rc] 45)).drew) := (below_next (below_next B1.out b2) (below_alloc _ _)).drew
      have hlt2 : w2.heap.size < (w2.alloc (.cells #[.int .i64 q, .slice ra 0 rc] 45)).drew.heap.size := by simp [World.drew]
      clear b2 L1 R1 B1 HI
      obtain ⟨t0, t1⟩ := T2.out
      go_wp2_with fail
      go_region_held3 (fun w' => w'.cell? ⟨w2.heap.size, 0, none⟩ = some (.int .i64 q)) (first | exact (b4.cell (p := ⟨w2.heap.size, 0, none⟩) hlt2).trans t0 | go_keep)
        ((first
          | (go_at_call 19; refine (HS.out _ L2.out R2.out).mono ?_; rintro e w4 ⟨a4, c4, rfl, -, b4⟩; have hfd : ∀ u : World, (Instr.field 45 (.agg #[.int .i64 q, .slice a4 0 c4]) 0).run Try.prog u = .ok (.int .i64 q) u := fun _ => by kernel_rfl)))
      go_wp2
      go_ret
      exact ⟨rfl, below_next B2.out b4⟩
    · obtain ⟨hput, hR', hb', hm, hdm, hall, hones⟩ := hth
      have hF' := fault_right hR'
      have hn40 := hR'.many
      have hn1 : n' ≤ 1048576 := by omega
      have hwf := i64_wf hdr0 hdr1
      have hRd2 : Right (del D' m) (del P' m) (n' - 1) := del_right hR' hm
      have hFd := fault_right hRd2
      have hbd : ∀ i, i < n' - 1 → U8 (del P' m i) ∧ (del P' m i).length ≤ 1048576 := fun i hi => by
        unfold del
        by_cases e : i < m
        · rw [if_pos e]; exact hb' i (by omega)
        · rw [if_neg e]; exact hb' (i + 1) (by omega)
      have hnod : ∀ j, j < n' - 1 → del D' m j ≠ d := fun j hj e => by
        have := (del_mem hR' hm (del D' m j, del P' m j)).1 (lst_mem.2 ⟨j, hj, rfl⟩)
        exact this.2 (by rw [e]; exact hdm.symm)
      have hsum : digest (P' m) = d := (hR'.sum m hm).trans hdm
      have hPm := hb' m hm
      have HPut := hide hput
      have HCF := hide (fun (u : World) (a : Option Addr) (c : Nat) (hr : RdC u a D' P' n') => implChunkFor_yes a c n' m D' P' d u hr hn1 hb' hF' hwf hm hdm)
      have HDr := hide (fun (u : World) (a : Option Addr) (c : Nat) (hr : RdC u a D' P' n') => implDrop_yes a c n' m D' P' d u hr hn1 hb' hF' hwf hm hdm)
      have HFa := hide (fun (u : World) (a : Option Addr) (c : Nat) (hr : RdC u a D' P' n') => by have := implFault_any a c n' D' P' u hr hn1 hb'; rw [hF'] at this; exact this)
      have HDg := hide (fun (u : World) (a : Option Addr) (c : Nat) (hr : Reads .u8 u a (P' m)) => by have := implDigestOf_any a c (P' m) u hr hPm.1 hPm.2; rw [hsum] at this; exact this)
      have HNo := hide (fun (u : World) (a : Option Addr) (c : Nat) (hr : RdC u a (del D' m) (del P' m) (n' - 1)) => implChunkFor_no a c (n' - 1) (del D' m) (del P' m) d u hr (by omega) hbd hFd hwf hnod)
      have HAll := hide (fun (u : World) (a : Option Addr) (c i : Nat) (hi : i < n) (hne : D i ≠ d) (hr : RdC u a (del D' m) (del P' m) (n' - 1)) => by
        obtain ⟨j, hj, e1, e2⟩ := hall i hi hne
        have := implChunkFor_yes a c (n' - 1) j (del D' m) (del P' m) (D i) u hr (by omega) hbd hFd (by rw [← e1]; exact hRd2.wf hj) hj e1
        rw [e2] at this
        exact this)
      have HOnes := hide hones
      have HP2 := hide (fun (u : World) (a : Option Addr) (c : Nat) (hr : RdC u a D' P' n') (hr2 : Reads .u8 u av ds) => implPut_there a c n' D' P' d av ac ds u hr hn1 hb' hF' hr2 UD.out (by omega) hO ⟨m, hm, hdm⟩)
      clear hput hR' hb' hall hones hF' hRd2 hFd hbd hnod hsum hPm hO hdm
      generalize hpm : P' m = pm at *
      clear hpm
      generalize del D' m = D2 at *
      generalize del P' m = P2 at *
      generalize hn2 : n' - 1 = n2 at *
      clear hn2
      go_wp2_with fail
      refine (HPut.out _ L1.out R1.out).mono ?_
      rintro e w2 ⟨ra, rc, rfl, hG2, b2⟩
      have X2 := hide hG2.rd
      have n12 := b2.size
      have L2 := hide (L1.out.below b2)
      have R2 := hide (R1.out.below b2)
      have B2 := hide (below_next B1.out b2)
      clear b2 hG2 L1 R1 B1 HPut
      go_wp2_with fail
      refine (HCF.out _ ra rc (X2.out.below (below_alloc _ _))).mono ?_
      rintro e w3 ⟨ca, cc, rfl, hG3, b3⟩
      have n23 : w2.heap.size < w3.heap.size := by have := b3.size; simp at this; omega
      have C3 := hide hG3.own.reads
      have T3 := hide ((Two.new w2 (.int .i64 0) (.slice ra n' rc) 45).below b3)
      have X3 := hide ((X2.out.below (below_alloc _ _)).below b3)
      have L3 := hide ((L2.out.below (below_alloc _ _)).below b3)
      have R3 := hide ((R2.out.below (below_alloc _ _)).below b3)
      have B3 := hide (below_next (below_next B2.out (below_alloc _ _)) b3)
      clear b3 hG3 X2 L2 R2 B2 HCF
      obtain ⟨t0, t1⟩ := T3.out
      go_wp2_with fail
      clear t0 t1
      refine (HDr.out _ ra rc (X3.out.below (below_alloc _ _))).mono ?_
      rintro e w4 ⟨da, dc, rfl, hG4, b4⟩
      have n34 : w3.heap.size < w4.heap.size := by have := b4.size; simp at this; omega
      have n24 : w2.heap.size < w4.heap.size := by omega
      have Y4 := hide hG4.rd
      have U4 := hide ((Two.new w3 (.int .i64 0) (.slice ca pm.length cc) 48).below b4)
      have C4 := hide ((C3.out.below (below_alloc _ _)).below b4)
      have T4 := hide ((T3.out.below (below_alloc _ _)).below b4)
      have X4 := hide ((X3.out.below (below_alloc _ _)).below b4)
      have L4 := hide ((L3.out.below (below_alloc _ _)).below b4)
      have R4 := hide ((R3.out.below (below_alloc _ _)).below b4)
      have B4 := hide (below_next (below_next B3.out (below_alloc _ _)) b4)
      clear b4 hG4 C3 T3 X3 L3 R3 B3 HDr
      obtain ⟨t0, t1⟩ := T4.out
      go_wp2_with fail
      clear t0 t1
      refine (HFa.out _ ra rc (X4.out.below (below_alloc _ _))).mono ?_
      rintro e w5 ⟨rfl, b5⟩
      have n45 : w4.heap.size < w5.heap.size := by have := b5.size; simp at this; omega
      have V5 := hide ((Two.new w4 (.int .i64 0) (.slice da n2 dc) 45).below b5)
      have Y5 := hide ((Y4.out.below (below_alloc _ _)).below b5)
      have U5 := hide ((U4.out.below (below_alloc _ _)).below b5)
      have C5 := hide ((C4.out.below (below_alloc _ _)).below b5)
      have T5 := hide ((T4.out.below (below_alloc _ _)).below b5)
      have X5 := hide ((X4.out.below (below_alloc _ _)).below b5)
      have L5 := hide ((L4.out.below (below_alloc _ _)).below b5)
      have R5 := hide ((R4.out.below (below_alloc _ _)).below b5)
      have B5 := hide (below_next (below_next B4.out (below_alloc _ _)) b5)
      clear b5 Y4 U4 C4 T4 X4 L4 R4 B4 HFa
      obtain ⟨u0, u1⟩ := U5.out
      obtain ⟨v0, v1⟩ := V5.out
      have hdd : (d != d) = false := by simp
      go_wp2_with fail
      refine (HDg.out _ ca cc C5.out).mono ?_
      rintro e w5' ⟨rfl, rfl⟩
      go_wp2_with fail
      refine (HNo.out _ da dc Y5.out).mono ?_
      rintro e w6 ⟨ea, ec, rfl, -, b6⟩
      clear u0 u1 v0 v1
      have hfd : ∀ u : World, (Instr.field 48 (.agg #[.int .i64 4, .slice ea 0 ec]) 0).run Try.prog u = .ok (.int .i64 4) u := fun _ => by kernel_rfl
      have V6 := hide (V5.out.below b6)
      have Y6 := hide (Y5.out.below b6)
      have T6 := hide (T5.out.below b6)
      have X6 := hide (X5.out.below b6)
      have L6 := hide (L5.out.below b6)
      have R6 := hide (R5.out.below b6)
      have B6 := hide (below_next B5.out b6)
      have n56 := b6.size
      clear b6 V5 Y5 U5 C5 T5 X5 L5 R5 B5 HNo HDg
      go_wp2
      clear hfd
      go_loopw [9] (fun i wr => ∃ k : Nat, k ≤ n ∧ i = .int .i64 k ∧ Below w6.heap.size w6 wr) (fun i _ => n - (intOf i).toNat)
      case atStart => exact ⟨0, Nat.zero_le _, rfl, Below.refl _ _⟩
      case round =>
        obtain ⟨k, hk, rfl, hbel⟩ := hrel
        have HW := hide hbel
        have hsr := hbel.size
        clear hbel
        by_cases hlt : k < n
        · obtain ⟨b1, o1, A1, C1, e0, hb1, hc1⟩ := (L6.out.below HW.out) (by omega)
          simp only [Option.some.injEq, Addr.mk.injEq, and_true] at e0
          obtain ⟨rfl, rfl⟩ := e0
          obtain ⟨c1, e1, r1⟩ := hc1 k hlt
          simp only [Nat.zero_add] at c1 e1
          have hone := HOnes.out k hlt
          have HAk := hide (fun (u : World) (a : Option Addr) (c : Nat) => HAll.out u a c k hlt)
          generalize A1 k = a1 at e1 r1
          generalize C1 k = d1 at e1
          generalize P k = xs at *
          generalize D k = dk at *
          have R9 := hide r1
          have hk0 : (0 : Int) ≤ (k : Int) := by omega
          have hk1 : (k : Int) < (n : Int) := by omega
          clear hc1 r1
          by_cases he : dk = d
          · have he' : (dk != d) = false := by simpa using he
            have HE := hide he
            clear he
            go_wp2
            go_quiet (fail)
            go_wp2
            go_roundw
            case rel => exact ⟨k + 1, by omega, by go_num, below_drewN HW.out _⟩
            case measure => simp [intOf]; omega
          · have he' : (dk != d) = true := by simpa using he
            have HCk := hide (fun (u : World) (a : Option Addr) (c : Nat) => HAk.out u a c he)
            have Y9 := hide (Y6.out.below HW.out)
            obtain ⟨v0, v1⟩ := V6.out.below HW.out
            have hg8 : w4.heap.size < wr.heap.size := by omega
            have KEEP : Hid (∀ w' : World, Below wr.heap.size wr w' → w'.cell? ⟨g, k * 2, none⟩ = some (.int .i64 dk) ∧ w'.cell? ⟨g, k * 2 + 1, none⟩ = some (.slice a1 xs.length d1) ∧ w'.cell? ⟨w4.heap.size, 1, none⟩ = some (.slice da n2 dc) ∧ Sem.run Try.prog (convert 22 9 (.slice a1 xs.length d1)) w' = .ok (.string (strOfNums xs)) w') := fun w' hb => ⟨(hb.cell (p := ⟨g, k * 2, none⟩) hb1).trans c1, (hb.cell (p := ⟨g, k * 2 + 1, none⟩) hb1).trans e1, (hb.cell (p := ⟨w4.heap.size, 1, none⟩) hg8).trans v1, conv_reads (R9.out.below hb) hone⟩
            have HCV := hide (fun (u : World) (a : Option Addr) (c : Nat) (hr : Reads .u8 u a xs) => conv_reads (c := c) hr hone)
            clear he HAk
            generalize strOfNums xs = sx at *
            have hw1 : Below wr.heap.size wr wr.drew := (Below.refl _ _).drew
            have CV : Hid (∀ (u : World) (a : Option Addr) (c : Nat), Reads .u8 u a xs → Sem.run Try.prog (convert 22 9 (.slice a xs.length c)) u = .ok (.string sx) u) := HCV.out
            clear c1 e1 v0 v1
            go_wp2
            refine wp_region_noPanic ?_
            go_region_held (fun w' => w'.cell? ⟨g, k * 2, none⟩ = some (.int .i64 dk) ∧ w'.cell? ⟨g, k * 2 + 1, none⟩ = some (.slice a1 xs.length d1) ∧ w'.cell? ⟨w4.heap.size, 1, none⟩ = some (.slice da n2 dc) ∧ Sem.run Try.prog (convert 22 9 (.slice a1 xs.length d1)) w' = .ok (.string sx) w') (first | exact KEEP.out _ hb9 | exact KEEP.out _ hw1 | go_keep)
              ((first
                | (go_at_call 20; refine (HCk.out wr.drew da dc (Y9.out.below hw1)).mono ?_; rintro e w9 ⟨fa, fc, rfl, hG9, hb9'⟩; have hb9 := hw1.trans hb9'; have hcv := CV.out w9 fa fc hG9.own.reads; have hfd : ∀ u : World, (Instr.field 48 (.agg #[.int .i64 0, .slice fa xs.length fc]) 1).run Try.prog u = .ok (.slice fa xs.length fc) u := (fun _ => by kernel_rfl); clear hG9 hb9')))
            all_goals
              refine NoPanic.normal ?_
              go_wp2
              go_roundw
              case rel => exact ⟨k + 1, by omega, by go_num, HW.out.trans (hb9.mono (by omega))⟩
              case measure => simp [intOf]; omega
        · have hke : k = n := by omega
          subst hke
          obtain ⟨t0, t1⟩ := T6.out.below HW.out
          have X9 := hide (X6.out.below HW.out)
          have R9 := hide (R6.out.below HW.out)
          have hg8 : w2.heap.size < wr.heap.size := by omega
          have hw1 : Below wr.heap.size wr wr.drew := (Below.refl _ _).drew
          have hnn : ((n' : Int) == (n' : Int)) = true := by simp
          go_wp2
          go_region_held3 (fun w' => w'.cell? ⟨w2.heap.size, 1, none⟩ = some (.slice ra n' rc)) (first | exact (hb9.cell (p := ⟨w2.heap.size, 1, none⟩) hg8).trans t1 | go_keep)
            ((first
              | (go_at_call 18; refine (HP2.out wr.drew ra rc (X9.out.below hw1) (R9.out.below hw1)).mono ?_; rintro e w9 ⟨fa, fc, rfl, -, hb9'⟩; have hb9 := hw1.trans hb9'; have hfd : ∀ u : World, (Instr.field 45 (.agg #[.int .i64 0, .slice fa n' fc]) 1).run Try.prog u = .ok (.slice fa n' fc) u := (fun _ => by kernel_rfl); clear hb9')))
          all_goals
            go_wp2
            go_ret
            exact ⟨rfl, below_next (below_next B6.out HW.out) hb9⟩

set_option maxRecDepth 100000 in
theorem lifted (os : Os) (started : os.Started) (H : Type) (enc : TypeId × Value → H) :
    ReturnsInHanded {} Try.checked os 4 .any (Rows.fnChunksSpec.pre6 enc Try.prog Try.f4 Rows.fnChunksRow.domain false) (Rows.fnChunksSpec.post enc Try.prog Try.f4 false true false false) := by
  refine returnsInHanded_of_change (C := Try.checked) own started (by kernel_rfl) Try.func4
    (ChangeSpec.witness6 (enc := enc) (C := Try.checked) false ⟨#[], #[.slice none 0 0], []⟩ 8 (by kernel_rfl) (by kernel_rfl) (by kernel_rfl) (by kernel_rfl)) ?_
  intro W base args ds gs before hval0 hW hcnd _
  have hval : ∀ (j : Nat) t v, Try.f4.params[j]? = some t → args[j]? = some v → Value.okWide Try.prog W .any base t v := hval0
  have hW' := hW
  obtain ⟨p, q, hA0, hV, rfl, hfz, hnd⟩ := hW
  have hA : DataW.TrodAll enc Try.prog W 0 (fun _ => true) true Try.f4.params.toList args.toList ds p := hA0
  rw [Try.params4] at hA hval
  obtain ⟨v0, vs0, d0, ds0, p0, q0, hargs, rfl, rfl, h0, r0⟩ := trodAll_cons hA
  obtain ⟨rfl, rfl, rfl⟩ := trodAll_nil r0
  obtain rfl : args = #[v0] := by cases args; simp_all
  obtain ⟨rfl, rfl⟩ := trodVars_none hV
  obtain ⟨a0, len0, cap0, rfl⟩ := okWide_slice Try.underlying22 (hval 0 22 v0 rfl rfl)
  have k0 := h0
  have lt0 : ∀ x ∈ p0, x.block < W.heap.size := by obtain ⟨m, hm⟩ := k0; exact DataW.trod_lt m _ _ _ hm
  obtain ⟨zs, hlen, hread, hu, hmax⟩ : ∃ zs : List Int, zs.length = len0 ∧ Reads .u8 W a0 zs ∧ U8 zs ∧ zs.length ≤ maxLen := by
    obtain ⟨fuel, hf⟩ := h0
    rcases open_ints Try.underlying22 Try.underlying5 (by kernel_rfl) hf with ⟨hcs, _⟩ | ⟨x, l, c, zs, hcs, _, hl, hm, hz, _, hcell, hwz⟩
    · simp [Value.cells] at hcs
      obtain ⟨rfl, rfl, rfl⟩ := hcs
      exact ⟨[], rfl, fun h => absurd rfl h, fun z hz => by simp at hz, Nat.zero_le _⟩
    · simp [Value.cells] at hcs
      obtain ⟨rfl, rfl, rfl⟩ := hcs
      exact reads_of_row (by simpa using hz) hl hm hcell hwz
  subst hlen
  clear hA0 hval0
  refine (walk a0 cap0 zs W hread hu hmax).mono fun e W' ⟨he, bel⟩ => ?_
  subst he
  exact ⟨_, rfl, _, _, _, [], _, [], hW', trodAll_mk1 (shut_bool Try.underlying4 _), (trodAll_cons_mk (Below.trod laidOut (by kernel_rfl) (of_decide_eq_true (by kernel_rfl)) k0 bel lt0) trodAll_mk0), rfl, bel.frame _, fun h => by cases h⟩

theorem over : Rows.fnChunksRow.holds Try.pinned (OpenSpec.ofChange Rows.fnChunksSpec) :=
  OpenClaim.holds_of_wide 4 Try.f4 rfl rfl rfl rfl rfl rfl rfl ⟨rfl, rfl, rfl, rfl, rfl⟩ rfl rfl rfl rfl rfl (by kernel_rfl) Try.func4 (by kernel_rfl)
    (of_decide_eq_true (by kernel_rfl)) (by unfold Func.isWrapper; first | (rw [if_pos (by decide +kernel)]; kernel_rfl) | (rw [if_neg (by decide +kernel)]; exact ⟨rfl, rfl⟩))
    (fun os started H enc _ => lifted os started H enc)

end Go.Proofs.Ytdebojhginiihaa.fnChunks
namespace Go.Proofs.Ytdebojhginiihaa
theorem fnChunks_holds : Rows.FnChunksSaid := fnChunks.over
#print axioms fnChunks_holds
end Go.Proofs.Ytdebojhginiihaa
