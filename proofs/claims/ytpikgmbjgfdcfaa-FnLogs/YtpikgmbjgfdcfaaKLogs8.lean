/-
  At every byte slice the law FnLogs returns true: what was sure is there behind a crash, what was written is there up to some line. No condition.
-/
import Derived.Test.YtpikgmbjgfdcfaaKLogs6
import Derived.Test.YtpikgmbjgfdcfaaKLogs7
import Derived.ProofKit
import Derived.OpenShut
import Derived.ShutString
import Derived.ChangeOld
namespace Go.Proofs.Ytpikgmbjgfdcfaa.fnLogs
open Go.ChangeShapes Go.WideShapes Go.ChangeAt Go.RowKit
set_option linter.unusedVariables false

theorem own : ownKnob Try.prog.godebug = none := by kernel_rfl
theorem laidOut : laidOutB Try.prog = true := by kernel_rfl
theorem lwBig_no (a : Option Addr) (cap : Nat) (n : Nat) (w : World) (h : n ≤ 1048576) :
    Calls Try.prog 9 #[.slice a n cap] w fun e w' => e = .returned (.bool false) ∧ w' = w := by
  have hb : ¬ (1048576 : Int) < (n : Int) := by omega
  go_enter Try.func9, Try.ntmps9
  go_wp2
  go_ret
  exact ⟨ret_bool (by simp <;> omega), rfl⟩
theorem lwBig_yes (a : Option Addr) (cap : Nat) (n : Nat) (w : World) (h : 1048576 < n) (h2 : n ≤ maxLen) :
    Calls Try.prog 9 #[.slice a n cap] w fun e w' => e = .returned (.bool true) ∧ w' = w := by
  have hb : (1048576 : Int) < (n : Int) := by omega
  unfold maxLen at h2
  go_enter Try.func9, Try.ntmps9
  go_wp2
  go_ret
  exact ⟨ret_bool (by simp <;> omega), rfl⟩
theorem fieldCode (a b c d : Value) (u : World) : Sem.run Try.prog (Instr.field 29 (.agg #[a, b, c, d]) 0) u = .ok a u := by kernel_rfl
theorem conv_at {u : World} {a : Option Addr} {n c : Nat} {zs : List Int} (h : Reads .u8 u a zs) (hn : n = zs.length) : Sem.run Try.prog (convert 22 9 (.slice a n c)) u = .ok (.string (strOfNums zs)) u := by
  subst hn
  exact conv_reads h
theorem col_line : lineF (⟨#[99, 111, 108, 108, 101, 99, 116]⟩ : ByteArray).data.toList = 0 := by decide
theorem col_len : (packZ (⟨#[99, 111, 108, 108, 101, 99, 116]⟩ : ByteArray).data.toList).length = 12 := by rw [packZ_len]; rfl
set_option maxRecDepth 100000 in
set_option maxHeartbeats 25600000 in
theorem walk (a0 : Option Addr) (cap0 : Nat) (zs : List Int) (w : World) (h : Reads .u8 w a0 zs) (hu : U8 zs) (hmax : zs.length ≤ maxLen) :
    Calls Try.prog 3 #[.slice a0 zs.length cap0] w fun e w' => e = .returned (.bool true) ∧ Below w.heap.size w w' := by
  obtain ⟨i1, ki, kz0, kz1, kz2⟩ := info_parts Try.infoU8
  by_cases hbig : 1048576 < zs.length
  · have HLB := hide (fun u => lwBig_yes a0 cap0 zs.length u hbig hmax)
    clear h hu
    go_enter Try.func3, Try.ntmps3
    go_wp2_with fail
    refine (HLB.out _).mono ?_
    rintro e w0 ⟨rfl, hw0⟩
    subst hw0
    go_wp2_with fail
    go_ret
    exact ⟨rfl, Below.refl _ _⟩
  have hl : zs.length ≤ 1048576 := by omega
  have HLB := hide (fun u => lwBig_no a0 cap0 zs.length u hl)
  have HD := hide (drawCrashLog_any a0 cap0 zs w h hu hl)
  clear h hu hbig
  go_enter Try.func3, Try.ntmps3
  go_wp2_with fail
  refine (HLB.out _).mono ?_
  rintro e w0 ⟨rfl, hw0⟩
  have hw0' := hw0.symm
  subst hw0'
  go_wp2_with fail
  refine HD.out.mono ?_
  rintro e w1 ⟨sa, sc, S, la, lc, L, d, rfl, h, ns, nl, d1, d2, hb1⟩
  have hcase : (∃ q : Int, q ≠ 0 ∧ (∀ u : World, Below w1.heap.size w1 u → Calls Try.prog 11 #[.agg #[.slice sa S.length sc, .slice la L.length lc], .int .i64 d] u (ResG' q 0 [] [] u)) ∧ (∀ u : World, Below w1.heap.size w1 u → Calls Try.prog 12 #[.agg #[.slice sa S.length sc, .slice la L.length lc], .int .i64 d] u (ResG' q 0 [] [] u))) ∨ (logF S L = 0 ∧ ∃ kk : Nat, d = kk ∧ kk ≤ L.length) := by
    by_cases h0 : logF S L = 0
    · by_cases hr : d < 0 ∨ (L.length : Int) < d
      · exact .inl ⟨3, by decide, fun u hb => implCrashLog_range sa la sc lc S L d u (h.below hb) h0 hr, fun u hb => specCrashLog_range sa la sc lc S L d u (h.below hb) h0 hr⟩
      · exact .inr ⟨h0, d.toNat, by omega, by omega⟩
    · exact .inl ⟨logF S L, h0, fun u hb => implCrashLog_bad sa la sc lc S L d u (h.below hb) h0, fun u hb => specCrashLog_bad sa la sc lc S L d u (h.below hb) h0⟩
  clear HD HLB
  rcases hcase with ⟨q, hq, hi, hs⟩ | ⟨h0, kk, rfl, hk⟩
  · have HI := hide hi
    have HSp := hide hs
    have hqb : (q == 0) = false := beq_eq_false_iff_ne.2 hq
    clear hi hs hq h
    have BD := hide hb1
    have A1 := hide (below_alloc w1 (.cells #[.slice sa S.length sc, .slice la L.length lc] 25))
    have T1 := hide (Two.new w1 (.slice sa S.length sc) (.slice la L.length lc) 25)
    have hsA : w1.heap.size < (w1.alloc (.cells #[.slice sa S.length sc, .slice la L.length lc] 25)).heap.size := by simp
    clear hb1
    obtain ⟨t0, t1⟩ := T1.out
    go_wp2_with fail
    clear t0 t1
    refine (HI.out _ A1.out).mono ?_
    rintro e w2 ⟨ja, jc, ka, kc, M, rfl, -, -, -, -, hb2⟩
    have hb2z := hb2.size
    have B2 := hide (below_next A1.out (below_next hb2 (below_alloc w2 (.cells #[.int .i64 q, .int .i64 0, .slice ja 0 jc, .slice ka 0 kc] 29))))
    have R2 := hide (Box4r.new w2 (.int .i64 q) (.int .i64 0) (.slice ja 0 jc) (.slice ka 0 kc) 29)
    have T2 := hide (T1.out.below (below_next hb2 (below_alloc w2 (.cells #[.int .i64 q, .int .i64 0, .slice ja 0 jc, .slice ka 0 kc] 29))))
    clear hb2 T1
    obtain ⟨⟨r0, r1, r2, r3⟩, -⟩ := R2.out
    go_wp2_with fail
    clear r0 r1 r2 r3
    have HZ2 := hide (show (w2.alloc (.cells #[.int .i64 q, .int .i64 0, .slice ja 0 jc, .slice ka 0 kc] 29)).heap.size = w2.heap.size + 1 by simp)
    generalize w2.alloc (.cells #[.int .i64 q, .int .i64 0, .slice ja 0 jc, .slice ka 0 kc] 29) = W at *
    have KB := hide (fun (u : World) (hb : Below W.heap.size W u) => And.intro (T2.out.below hb) (R2.out.below hb).1.1)
    unfold Two at KB
    refine wp_region_held_drew (S := fun u => (u.cell? ⟨w1.heap.size, 0, none⟩ = some (.slice sa S.length sc) ∧ u.cell? ⟨w1.heap.size, 1, none⟩ = some (.slice la L.length lc)) ∧ u.cell? ⟨w2.heap.size, 0, none⟩ = some (.int .i64 q)) (by kernel_rfl) (KB.out _ (Below.refl _ _).drew) (fun hHeld => ?_)
    change wpAnyH _ _ _ _ _ _ (Array.replicate _ false) _ (World.drew _)
    have BR := hide ((Below.refl W.heap.size W).drew)
    generalize W.drew = D at *
    refine tkd 0 25 (.agg #[.slice sa S.length sc, .slice la L.length lc]) hHeld rfl (by kernel_rfl) (by kernel_rfl) (by kernel_rfl) (fun _ _ _ h => h) (Or.inl ⟨by rfl, ?_⟩) ?_
    · rintro w ⟨⟨q0, q1⟩, q2⟩
      go_simp
    try simp only [Act.put, List.setIfInBounds_toArray, List.set_cons_zero, List.set_cons_succ]
    refine tkd 1 26 (.int .i64 d) hHeld rfl (by kernel_rfl) (by kernel_rfl) (by kernel_rfl) (fun _ _ _ h => h) (Or.inl ⟨by rfl, ?_⟩) ?_
    · rintro w ⟨⟨q0, q1⟩, q2⟩
      go_simp
    try simp only [Act.put, List.setIfInBounds_toArray, List.set_cons_zero, List.set_cons_succ]
    refine tkd 4 29 (.pointer (some ⟨w2.heap.size, 0, none⟩)) hHeld rfl (by kernel_rfl) (by kernel_rfl) (by kernel_rfl) (fun _ _ _ h => h) (Or.inl ⟨by rfl, ?_⟩) ?_
    · rintro w ⟨⟨q0, q1⟩, q2⟩
      go_simp
    try simp only [Act.put, List.setIfInBounds_toArray, List.set_cons_zero, List.set_cons_succ]
    refine tkd 5 30 (.int .i64 q) hHeld rfl (by kernel_rfl) (by kernel_rfl) (by kernel_rfl) (fun _ _ _ h => h) (Or.inl ⟨by rfl, ?_⟩) ?_
    · rintro w ⟨⟨q0, q1⟩, q2⟩
      go_simp
    try simp only [Act.put, List.setIfInBounds_toArray, List.set_cons_zero, List.set_cons_succ]
    refine wpAnyH_ready (rs := [2]) (by kernel_rfl) (by simp) ?_
    refine AllReadyH.cons rfl (fun K hK => ?_) AllReadyH.nil
    go_simp
    refine (HSp.out D (below_next B2.out BR.out)).mono ?_
    rintro e w3 ⟨ya, yc, za, zc, M2, rfl, -, -, -, -, hb3⟩
    have BRn := hide (below_next BR.out hb3)
    clear hb3 BR
    have BR := BRn
    clear BRn
    go_wp2_with fail
    refine hK.out _ _ (KB.out _ BR.out) (fun hHeld => ?_)
    clear hK K
    try simp only [Act.put, List.setIfInBounds_toArray, List.set_cons_zero, List.set_cons_succ]
    have hfc := fun u => fieldCode (.int .i64 q) (.int .i64 0) (.slice ya 0 yc) (.slice za 0 zc) u
    refine tkd 3 28 (.int .i64 q) hHeld rfl (by kernel_rfl) (by kernel_rfl) (by kernel_rfl) (fun _ _ _ h => h) (Or.inl ⟨by rfl, ?_⟩) ?_
    · rintro w ⟨⟨q0, q1⟩, q2⟩
      go_simp
    try simp only [Act.put, List.setIfInBounds_toArray, List.set_cons_zero, List.set_cons_succ]
    refine tkd 6 31 (.bool true) hHeld rfl (by kernel_rfl) (by kernel_rfl) (by kernel_rfl) (fun _ _ _ h => h) (Or.inl ⟨by rfl, ?_⟩) ?_
    · rintro w ⟨⟨q0, q1⟩, q2⟩
      go_simp
    try simp only [Act.put, List.setIfInBounds_toArray, List.set_cons_zero, List.set_cons_succ]
    refine tkd 7 2 (.bool true) hHeld rfl (by kernel_rfl) (by kernel_rfl) (by kernel_rfl) (fun _ _ _ h => h) (Or.inl ⟨by rfl, ?_⟩) ?_
    · rintro w ⟨⟨q0, q1⟩, q2⟩
      go_simp
    try simp only [Act.put, List.setIfInBounds_toArray, List.set_cons_zero, List.set_cons_succ]
    refine wpAnyH_done (by kernel_rfl) ?_ _
    have BE := hide (below_next BD.out (below_next B2.out BR.out))
    go_wp2_with fail
    go_ret
    exact ⟨rfl, BE.out⟩
  · clear ns nl d1 d2
    have hsz := (logF_zero h0).1
    have hel := end_le (S ++ L.take kk)
    have hS := (logF_zero h0).2.1
    have hL := (logF_zero h0).2.2
    obtain ⟨ce1, ce2, ce3⟩ := crash_eq h0 kk
    obtain ⟨Z, hZ⟩ : ∃ Z, crashZ S L kk = Z := ⟨_, rfl⟩
    obtain ⟨N, hN⟩ : ∃ N, S ++ L = N := ⟨_, rfl⟩
    obtain ⟨NL, hNL⟩ : ∃ NL, L ++ packZ ((⟨#[99, 111, 108, 108, 101, 99, 116]⟩ : ByteArray)).data.toList = NL := ⟨_, rfl⟩
    have hkl : (L.take kk).length = kk := by rw [List.length_take]; omega
    have hnl : N.length = S.length + L.length := by rw [← hN, List.length_append]
    have hNLl : NL.length = L.length + 12 := by rw [← hNL, List.length_append, col_len]
    have hzl : Z.length = endL (lines (S ++ L.take kk)) := by rw [← hZ]; unfold crashZ; rw [flatL_len]
    have hgood := (lines_good _ (S ++ L.take kk) (Nat.le_refl _)).1
    have hlz : lines Z = lines (S ++ L.take kk) := by rw [← hZ]; exact lines_of_flat hgood
    have hZS : S.length ≤ Z.length := by
      have := congrArg List.length ce2
      rw [List.length_append, flatL_len, flatL_len] at this
      omega
    have hZN : Z.length ≤ N.length := by rw [hzl, hnl]; rw [List.length_append, hkl] at hel; omega
    have hZT : N.take Z.length = Z := by
      rw [hzl, ← hZ]
      unfold crashZ
      rw [← take_end, ← hN]
      have e1 : (S ++ L).take (S.length + kk) = S ++ L.take kk := by rw [List.take_append, List.take_of_length_le (by omega : S.length ≤ S.length + kk)]; congr 1; congr 1; omega
      rw [← e1, List.take_take, Nat.min_eq_left (by rw [e1]; rw [List.length_append, hkl] at hel; omega)]
    have hZU : U8 Z := by rw [← hZT, ← hN]; exact u8_take (u8_app h.su8 h.lu8) _
    have hNU : U8 N := by rw [← hN]; exact u8_app h.su8 h.lu8
    have hwz : wholeZ Z = true := wholeZ_iff.2 (by rw [← hZ]; exact flat_whole hgood)
    have hfz : logF Z [] = 0 := logF_fine (by simp; omega) (by rw [hwz]; rfl)
    have hcs : lines N = lines S ++ lines L := by rw [← hN]; exact lines_app hS L
    have hca : lines NL = lines L ++ [((⟨#[99, 111, 108, 108, 101, 99, 116]⟩ : ByteArray)).data.toList] := by
      rw [← hNL, lines_app hL]
      have := lines_pack col_line []
      rw [List.append_nil] at this
      rw [this, lines_nil]
    have HCL := hide (show ((lines S).length + (lines NL).length : Nat) = (lines N).length + 1 by rw [hca, hcs]; simp only [List.length_append, List.length_cons, List.length_nil]; omega)
    have HI := hide (fun (u : World) (hb : Below w1.heap.size w1 u) => implCrashLog_ok sa la sc lc S L kk u (h.below hb) h0 hk)
    rw [hZ, ← hlz] at HI
    have HSy := hide (fun (u : World) (hb : Below w1.heap.size w1 u) => implSyncLog_ok sa la sc lc S L u (h.below hb) h0)
    rw [hN] at HSy
    have HAp := hide (fun (u : World) (hb : Below w1.heap.size w1 u) => implAppendLog_ok sa la sc lc S L (⟨#[99, 111, 108, 108, 101, 99, 116]⟩ : ByteArray) u (h.below hb) h0 col_line NL hNL)
    have HPa := hide (fun (u : World) => implPackLine_ok (⟨#[99, 111, 108, 108, 101, 99, 116]⟩ : ByteArray) u col_line)
    have HLi := hide (fun (u : World) => implLineFault_any (⟨#[99, 111, 108, 108, 101, 99, 116]⟩ : ByteArray) u (by decide))
    rw [col_line] at HLi
    rw [col_len] at HPa
    have HRe := hide (fun (u : World) (p : Option Addr) (c : Nat) (hr : Reads .u8 u p Z) (hc : Z.length ≤ c) => implReadLines_any p c Z u hr hZU hc (by omega))
    have e1 : readQ Z = 0 := if_pos (by omega)
    have e2 : readL Z = lines Z := if_pos (by omega)
    rw [e1, e2] at HRe
    have HLo := hide (fun (u : World) (p p2 : Option Addr) (c c2 : Nat) (hr : Reads .u8 u p Z) (hc : Z.length ≤ c) => implLogFault_any p p2 c c2 Z [] u ⟨hr, fun e => absurd rfl e, hZU, fun z hz => by simp at hz, hc, Nat.zero_le _, by omega, by simp⟩)
    rw [hfz] at HLo
    have HLo' : Hid (∀ (u : World) (p p2 : Option Addr) (c c2 : Nat), Reads .u8 u p Z → Z.length ≤ c → Calls Try.prog 16 #[.agg #[.slice p Z.length c, .slice p2 0 c2]] u fun e w' => e = .returned (.int .i64 0) ∧ Below u.heap.size u w') := hide (fun u p p2 c c2 hr hc => HLo.out u p p2 c c2 hr hc)
    have HRS := hide (fun (u : World) (hb : Below w1.heap.size w1 u) => h.sure.below hb)
    have HRL := hide (fun (u : World) (hb : Below w1.heap.size w1 u) => h.loose.below hb)
    obtain ⟨cn, hcn⟩ : ∃ c, c = (lines Z).length := ⟨_, rfl⟩
    have HCN := hide hcn
    have hcnb : cn ≤ 2000 := by have := lines_count Z; omega
    unfold ResN' at HRe
    rw [← hcn] at HI HRe
    obtain ⟨cs, hcs'⟩ : ∃ c, c = (lines N).length := ⟨_, rfl⟩
    rw [← hcs'] at HSy HCL
    have hcsb : cs ≤ 2000 := by have := lines_count N; omega
    have hm1 : 0 + S.length ≤ maxLen := by unfold maxLen; omega
    have hm2 : (0 + S.length) * 1 ≤ 140737488355328 := by omega
    have hm3 : S.length + L.length ≤ maxLen := by unfold maxLen; omega
    have hm4 : (S.length + L.length) * 1 ≤ 140737488355328 := by omega
    have HNLl := hide hNLl
    have HNl := hide (show S.length + L.length = N.length by omega)
    have HNN := hide hN
    have HZT := hide hZT
    have HNU := hide hNU
    have hn2000 : N.length ≤ 2000 := by omega
    have hz2000 : Z.length ≤ 2000 := by omega
    clear h h0 hel hS hL ce1 ce2 ce3 hZ hN hNL hkl hnl hNLl hzl hgood hlz hZT hZU hNU hwz hfz hcs hca e1 e2 HLo hcn hcs'
    have BD := hide hb1
    have A1 := hide (below_alloc w1 (.cells #[.slice sa S.length sc, .slice la L.length lc] 25))
    have T1 := hide (Two.new w1 (.slice sa S.length sc) (.slice la L.length lc) 25)
    have hsA : w1.heap.size < (w1.alloc (.cells #[.slice sa S.length sc, .slice la L.length lc] 25)).heap.size := by simp
    clear hb1
    obtain ⟨t0, t1⟩ := T1.out
    go_wp2_with fail
    clear t0 t1
    refine (HI.out _ A1.out).mono ?_
    rintro e w2 ⟨ja, jc, ka, kc, M, rfl, gz, -, -, -, hb2⟩
    have hjc : Z.length ≤ jc := ownsRow_cap gz.1
    have hb2z := hb2.size
    obtain ⟨cnt, hcnt⟩ : ∃ c : Int, c = (cn : Int) := ⟨_, rfl⟩
    rw [← hcnt]
    have HCNT := hide hcnt
    clear hcnt
    have AR := hide (below_next hb2 (below_alloc w2 (.cells #[.int .i64 0, .int .i64 cnt, .slice ja Z.length jc, .slice ka 0 kc] 29)))
    have B2 := hide (below_next A1.out AR.out)
    have R2 := hide (Box4r.new w2 (.int .i64 0) (.int .i64 cnt) (.slice ja Z.length jc) (.slice ka 0 kc) 29)
    have T2 := hide (T1.out.below AR.out)
    have Z2 := hide (gz.own.reads.below (below_alloc w2 (.cells #[.int .i64 0, .int .i64 cnt, .slice ja Z.length jc, .slice ka 0 kc] 29)))
    clear hb2 T1 gz AR
    obtain ⟨⟨r0, r1, r2, r3⟩, -⟩ := R2.out
    go_wp2_with fail
    clear r0 r1 r2 r3
    have HZ2 := hide (show (w2.alloc (.cells #[.int .i64 0, .int .i64 cnt, .slice ja Z.length jc, .slice ka 0 kc] 29)).heap.size = w2.heap.size + 1 by simp)
    generalize w2.alloc (.cells #[.int .i64 0, .int .i64 cnt, .slice ja Z.length jc, .slice ka 0 kc] 29) = W at *
    have hZ2 : w2.heap.size < W.heap.size := by have := HZ2.out; omega
    have KB := hide (fun (u : World) (hb : Below W.heap.size W u) => T2.out.below hb)
    unfold Two at KB
    refine wp_region_held_drew (S := fun u => u.cell? ⟨w1.heap.size, 0, none⟩ = some (.slice sa S.length sc) ∧ u.cell? ⟨w1.heap.size, 1, none⟩ = some (.slice la L.length lc)) (by kernel_rfl) (KB.out _ (Below.refl _ _).drew) (fun hHeld => ?_)
    change wpAnyH _ _ _ _ _ _ (Array.replicate _ false) _ (World.drew _)
    have BR := hide ((Below.refl W.heap.size W).drew)
    have hsD : W.heap.size ≤ W.drew.heap.size := Nat.le_refl _
    generalize W.drew = D at *
    refine tkd 1 33 (.pointer (some ⟨w1.heap.size, 0, none⟩)) hHeld rfl (by kernel_rfl) (by kernel_rfl) (by kernel_rfl) (fun _ _ _ h => h) (Or.inl ⟨by rfl, ?_⟩) ?_
    · rintro w ⟨q0, q1⟩
      go_simp
    try simp only [Act.put, List.setIfInBounds_toArray, List.set_cons_zero, List.set_cons_succ]
    refine tkd 2 34 (.slice sa S.length sc) hHeld rfl (by kernel_rfl) (by kernel_rfl) (by kernel_rfl) (fun _ _ _ h => h) (Or.inl ⟨by rfl, ?_⟩) ?_
    · rintro w ⟨q0, q1⟩
      go_simp
    try simp only [Act.put, List.setIfInBounds_toArray, List.set_cons_zero, List.set_cons_succ]
    refine tkd 4 36 (.pointer (some ⟨w1.heap.size, 1, none⟩)) hHeld rfl (by kernel_rfl) (by kernel_rfl) (by kernel_rfl) (fun _ _ _ h => h) (Or.inl ⟨by rfl, ?_⟩) ?_
    · rintro w ⟨q0, q1⟩
      go_simp
    try simp only [Act.put, List.setIfInBounds_toArray, List.set_cons_zero, List.set_cons_succ]
    refine tkd 5 37 (.slice la L.length lc) hHeld rfl (by kernel_rfl) (by kernel_rfl) (by kernel_rfl) (fun _ _ _ h => h) (Or.inl ⟨by rfl, ?_⟩) ?_
    · rintro w ⟨q0, q1⟩
      go_simp
    try simp only [Act.put, List.setIfInBounds_toArray, List.set_cons_zero, List.set_cons_succ]
    refine wpAnyH_ready (rs := [0]) (by kernel_rfl) (by simp) ?_
    refine AllReadyH.cons rfl (fun K hK => ?_) AllReadyH.nil
    have hb2 := below_next BR.out (below_alloc D (.cells #[] 5))
    have O0 := hide (made_zero D 5 D.heap.size D.heap.size (Nat.le_refl _) rfl)
    have hsE : D.heap.size < (D.alloc (.cells #[] 5)).heap.size := by simp
    have BQ := hide hb2
    clear hb2
    go_simp
    refine hK.out _ _ (KB.out _ BQ.out) (fun hHeld => ?_)
    clear hK K BR
    try simp only [Act.put, List.setIfInBounds_toArray, List.set_cons_zero, List.set_cons_succ]
    obtain ⟨g, hg⟩ : ∃ g, g = D.heap.size := ⟨_, rfl⟩
    have hgw : W.heap.size ≤ g := by omega
    rw [← hg] at O0 hsE
    generalize D.alloc (.cells #[] 5) = W2 at *
    try rw [← hg]
    refine wpAnyH_ready (rs := [3]) (by kernel_rfl) (by simp) ?_
    refine AllReadyH.cons rfl (fun K hK => ?_) AllReadyH.nil
    refine step_app_rd rfl (.tmp 32) (.tmp 34) 22 rfl g 5 i1 Try.underlying22 ki kz0 kz1 kz2 _ 0 [] rfl O0.out sa _ sc S rfl rfl (HRS.out _ (below_next B2.out BQ.out)) _ rfl hm1 hm2 (by omega) ?_
    intro av3 cv3 w3 ho3 hk3
    have O3 : Hid (w3.ownsRow g 5 1 (.slice av3 S.length cv3) S.length (S.map (Value.int .u8))) := hide (by simpa using ho3)
    have K3 := hide (show Kept (fun b => some g = some b) _ w3 from hk3)
    have B3 := hide (BQ.out.trans (K3.out.below (B := W.heap.size) (by omega) (fun k hk e => by simp at e; omega)))
    have hs3 := K3.out.size
    clear ho3 hk3
    rw [Nat.zero_add]
    refine hK.out _ _ (KB.out _ B3.out) (fun hHeld => ?_)
    clear hK K
    simp only [Act.put, List.setIfInBounds_toArray]
    refine wpAnyH_ready (rs := [6]) (by kernel_rfl) (by simp) ?_
    refine AllReadyH.cons rfl (fun K hK => ?_) AllReadyH.nil
    refine step_app_rd rfl (.tmp 35) (.tmp 37) 22 rfl g 5 i1 Try.underlying22 ki kz0 kz1 kz2 _ S.length S rfl O3.out la _ lc L rfl rfl (HRL.out _ (below_next B2.out B3.out)) _ rfl hm3 hm4 (by omega) ?_
    intro av4 cv4 w4 ho4 hk4
    have O4 : Hid (w4.ownsRow g 5 1 (.slice av4 N.length cv4) N.length (N.map (Value.int .u8))) := hide (by rw [← HNl.out, ← HNN.out]; exact ho4)
    have B4 := hide (B3.out.trans (hk4.below (B := W.heap.size) (by omega) (fun k hk e => by have := (World.ownsRow.lt O3.out k e).1; omega)))
    have hs4 := hk4.size
    clear ho4 hk4
    rw [HNl.out]
    refine hK.out _ _ (KB.out _ B4.out) (fun hHeld => ?_)
    clear hK K
    simp only [Act.put]
    refine tkd 7 6 (.slice av4 N.length cv4) hHeld rfl (by kernel_rfl) (by kernel_rfl) (by kernel_rfl) (fun _ _ _ h => h) (Or.inl ⟨by rfl, ?_⟩) ?_
    · rintro w ⟨q0, q1⟩
      go_simp
    simp only [Act.put]
    refine wpAnyH_done (by kernel_rfl) ?_ _
    have hcv4 : N.length ≤ cv4 := ownsRow_cap O4.out
    have RN := hide (ownsRow_own O4.out rfl).reads
    have B5 := hide (below_next B2.out B4.out)
    have T5 := hide (T2.out.below B4.out)
    have R5 := hide (R2.out.below B4.out)
    have Z5 := hide (Z2.out.below B4.out)
    clear O0 O3 O4 B3 BQ KB T2 R2 Z2 B2
    obtain ⟨⟨r0, r1, r2, r3⟩, -⟩ := R5.out
    go_wp2_with fail
    clear r0 r1 r2 r3
    refine (HRe.out w4 ja jc Z5.out hjc).mono ?_
    rintro e w5 ⟨na, nc, rfl, -, hb5⟩
    have AR := hide (below_next hb5 (below_alloc w5 (.cells #[.int .i64 0, .slice na cn nc] 33)))
    have E6 := hide (Two.new w5 (.int .i64 0) (.slice na cn nc) 33)
    have T6 := hide (T5.out.below AR.out)
    have R6 := hide (R5.out.below AR.out)
    have Z6 := hide (Z5.out.below AR.out)
    have N6 := hide (RN.out.below AR.out)
    have B6 := hide (below_next B5.out AR.out)
    have hz5 := hb5.size
    have hzz5 : w5.heap.size < (w5.alloc (.cells #[.int .i64 0, .slice na cn nc] 33)).heap.size := by simp
    clear hb5 AR T5 R5 Z5 RN B5
    obtain ⟨t0, t1⟩ := T6.out
    go_wp2_with fail
    clear t0 t1
    generalize w5.alloc (.cells #[.int .i64 0, .slice na cn nc] 33) = W5 at *
    refine (HSy.out W5 B6.out).mono ?_
    rintro e w7 ⟨xa, xc, ya, yc, M7, rfl, gx, -, -, -, hb7⟩
    have AR := hide (below_next hb7 (below_alloc w7 (.cells #[.int .i64 0, .int .i64 cs, .slice xa N.length xc, .slice ya 0 yc] 29)))
    have S8 := hide (Box4r.new w7 (.int .i64 0) (.int .i64 cs) (.slice xa N.length xc) (.slice ya 0 yc) 29)
    have X8 := hide (gx.own.reads.below (below_alloc w7 (.cells #[.int .i64 0, .int .i64 cs, .slice xa N.length xc, .slice ya 0 yc] 29)))
    have T8 := hide (T6.out.below AR.out)
    have R8 := hide (R6.out.below AR.out)
    have Z8 := hide (Z6.out.below AR.out)
    have N8 := hide (N6.out.below AR.out)
    have E8 := hide (E6.out.below AR.out)
    have B8 := hide (below_next B6.out AR.out)
    have hz7 := hb7.size
    have hzz7 : w7.heap.size < (w7.alloc (.cells #[.int .i64 0, .int .i64 cs, .slice xa N.length xc, .slice ya 0 yc] 29)).heap.size := by simp
    clear hb7 gx AR T6 R6 Z6 N6 E6 B6
    obtain ⟨t0, t1⟩ := T8.out
    go_wp2_with fail
    clear t0 t1
    generalize w7.alloc (.cells #[.int .i64 0, .int .i64 cs, .slice xa N.length xc, .slice ya 0 yc] 29) = W7 at *
    refine (HAp.out W7 B8.out).mono ?_
    rintro e w9 hres
    rcases hres with ⟨hbg, hres⟩ | ⟨hbg, hres⟩
    · obtain ⟨za, zc, ua, uc, M9, rfl, -, -, -, -, hb9⟩ := hres
      have AR := hide (below_next hb9 (below_alloc w9 (.cells #[.int .i64 2, .int .i64 0, .slice za 0 zc, .slice ua 0 uc] 29)))
      have Y0 := hide (Box4r.new w9 (.int .i64 2) (.int .i64 0) (.slice za 0 zc) (.slice ua 0 uc) 29)
      have T9 := hide (T8.out.below AR.out)
      have R9 := hide (R8.out.below AR.out)
      have Z9 := hide (Z8.out.below AR.out)
      have N9 := hide (N8.out.below AR.out)
      have E9 := hide (E8.out.below AR.out)
      have S9 := hide (S8.out.below AR.out)
      have X9 := hide (X8.out.below AR.out)
      have B9 := hide (below_next B8.out AR.out)
      have hz9 := hb9.size
      have hzz9 : w9.heap.size < (w9.alloc (.cells #[.int .i64 2, .int .i64 0, .slice za 0 zc, .slice ua 0 uc] 29)).heap.size := by simp
      clear hb9 AR T8 R8 Z8 N8 E8 S8 X8 B8
      obtain ⟨⟨r0, r1, r2, r3⟩, -⟩ := R9.out
      obtain ⟨t0, t1⟩ := T9.out
      obtain ⟨e0, e1⟩ := E9.out
      go_wp2_with fail
      clear r0 r1 r2 r3 t0 t1 e0 e1
      generalize w9.alloc (.cells #[.int .i64 2, .int .i64 0, .slice za 0 zc, .slice ua 0 uc] 29) = W9 at *
      cases av4 with
      | none =>
        have HZR := hide (fun (u : World) (hb : Below W9.heap.size W9 u) => show Reads .u8 u none Z from by
          rw [← HZT.out]
          intro hne
          obtain ⟨b, off, e, hb', hc⟩ := (N9.out.below hb) (fun e => hne (by simp [e]))
          refine ⟨b, off, e, hb', fun i hi => ?_⟩
          rw [List.length_take] at hi
          rw [hc i (by omega)]
          simp only [List.getD_eq_getElem?_getD, List.getElem?_take]
          rw [if_pos (by omega)])
        have KB : Hid (∀ u : World, Below W9.heap.size W9 u → (u.cell? ⟨w1.heap.size, 0, none⟩ = some (.slice sa S.length sc) ∧ u.cell? ⟨w1.heap.size, 1, none⟩ = some (.slice la L.length lc)) ∧ (u.cell? ⟨w2.heap.size, 0, none⟩ = some (.int .i64 0) ∧ u.cell? ⟨w2.heap.size, 1, none⟩ = some (.int .i64 cnt) ∧ u.cell? ⟨w2.heap.size, 2, none⟩ = some (.slice ja Z.length jc) ∧ u.cell? ⟨w2.heap.size, 3, none⟩ = some (.slice ka 0 kc)) ∧ (u.cell? ⟨w5.heap.size, 0, none⟩ = some (.int .i64 0) ∧ u.cell? ⟨w5.heap.size, 1, none⟩ = some (.slice na cn nc)) ∧ Sem.run Try.prog (convert 22 9 (.slice none Z.length cv4)) u = .ok (.string (strOfNums Z)) u ∧ Sem.run Try.prog (convert 22 9 (.slice ja Z.length jc)) u = .ok (.string (strOfNums Z)) u) := hide (fun u hb => ⟨T9.out.below hb, (R9.out.below hb).1, E9.out.below hb, conv_at (HZR.out u hb) rfl, conv_at (Z9.out.below hb) rfl⟩)
        refine wp_region_held_drew (S := fun u => (u.cell? ⟨w1.heap.size, 0, none⟩ = some (.slice sa S.length sc) ∧ u.cell? ⟨w1.heap.size, 1, none⟩ = some (.slice la L.length lc)) ∧ (u.cell? ⟨w2.heap.size, 0, none⟩ = some (.int .i64 0) ∧ u.cell? ⟨w2.heap.size, 1, none⟩ = some (.int .i64 cnt) ∧ u.cell? ⟨w2.heap.size, 2, none⟩ = some (.slice ja Z.length jc) ∧ u.cell? ⟨w2.heap.size, 3, none⟩ = some (.slice ka 0 kc)) ∧ (u.cell? ⟨w5.heap.size, 0, none⟩ = some (.int .i64 0) ∧ u.cell? ⟨w5.heap.size, 1, none⟩ = some (.slice na cn nc)) ∧ Sem.run Try.prog (convert 22 9 (.slice none Z.length cv4)) u = .ok (.string (strOfNums Z)) u ∧ Sem.run Try.prog (convert 22 9 (.slice ja Z.length jc)) u = .ok (.string (strOfNums Z)) u) (by kernel_rfl) (KB.out _ (Below.refl _ _).drew) (fun hHeld => ?_)
        change wpAnyH _ _ _ _ _ _ (Array.replicate _ false) _ (World.drew _)
        have BR := hide ((Below.refl W9.heap.size W9).drew)
        have hsD9 : W9.heap.size ≤ W9.drew.heap.size := Nat.le_refl _
        generalize W9.drew = D9 at *
        have hcnt0 := HCNT.out
        refine tkd 0 51 (.pointer (some ⟨w2.heap.size, 2, none⟩)) hHeld rfl (by kernel_rfl) (by kernel_rfl) (by kernel_rfl) (fun _ _ _ h => h) (Or.inl ⟨by rfl, ?_⟩) ?_
        · rintro w ⟨⟨q0, q1⟩, ⟨q2, q3, q4, q5⟩, ⟨q6, q7⟩, q8, q9⟩
          go_simp <;> (first | done | decide | omega | (intro _; omega) | (simp; omega))
        try simp only [Act.put, List.setIfInBounds_toArray, List.set_cons_zero, List.set_cons_succ]
        refine tkd 1 52 (.agg #[.slice ja Z.length jc, .slice ka 0 kc]) hHeld rfl (by kernel_rfl) (by kernel_rfl) (by kernel_rfl) (fun _ _ _ h => h) (Or.inl ⟨by rfl, ?_⟩) ?_
        · rintro w ⟨⟨q0, q1⟩, ⟨q2, q3, q4, q5⟩, ⟨q6, q7⟩, q8, q9⟩
          go_simp <;> (first | done | decide | omega | (intro _; omega) | (simp; omega))
        try simp only [Act.put, List.setIfInBounds_toArray, List.set_cons_zero, List.set_cons_succ]
        refine wpAnyH_ready (rs := [2]) (by kernel_rfl) (by simp) ?_
        refine AllReadyH.cons rfl (fun K hK => ?_) AllReadyH.nil
        go_simp
        refine (HLo'.out D9 ja ka jc kc (Z9.out.below BR.out) hjc).mono ?_
        rintro e wL ⟨rfl, hbL⟩
        have BRn := hide (below_next BR.out hbL)
        clear hbL BR
        have BR := BRn
        clear BRn
        go_wp2_with fail
        refine hK.out _ _ (KB.out _ BR.out) (fun hHeld => ?_)
        clear hK K
        try simp only [Act.put, List.setIfInBounds_toArray, List.set_cons_zero, List.set_cons_succ]
        refine tkd 3 54 (.bool false) hHeld rfl (by kernel_rfl) (by kernel_rfl) (by kernel_rfl) (fun _ _ _ h => h) (Or.inl ⟨by rfl, ?_⟩) ?_
        · rintro w ⟨⟨q0, q1⟩, ⟨q2, q3, q4, q5⟩, ⟨q6, q7⟩, q8, q9⟩
          go_simp <;> (first | done | decide | omega | (intro _; omega) | (simp; omega))
        try simp only [Act.put, List.setIfInBounds_toArray, List.set_cons_zero, List.set_cons_succ]
        refine tkd 4 55 (.bool false) hHeld rfl (by kernel_rfl) (by kernel_rfl) (by kernel_rfl) (fun _ _ _ h => h) (Or.inl ⟨by rfl, ?_⟩) ?_
        · rintro w ⟨⟨q0, q1⟩, ⟨q2, q3, q4, q5⟩, ⟨q6, q7⟩, q8, q9⟩
          go_simp <;> (first | done | decide | omega | (intro _; omega) | (simp; omega))
        try simp only [Act.put, List.setIfInBounds_toArray, List.set_cons_zero, List.set_cons_succ]
        refine tkd 5 56 (.pointer (some ⟨w2.heap.size, 2, none⟩)) hHeld rfl (by kernel_rfl) (by kernel_rfl) (by kernel_rfl) (fun _ _ _ h => h) (Or.inl ⟨by rfl, ?_⟩) ?_
        · rintro w ⟨⟨q0, q1⟩, ⟨q2, q3, q4, q5⟩, ⟨q6, q7⟩, q8, q9⟩
          go_simp <;> (first | done | decide | omega | (intro _; omega) | (simp; omega))
        try simp only [Act.put, List.setIfInBounds_toArray, List.set_cons_zero, List.set_cons_succ]
        refine tkd 6 57 (.pointer (some ⟨w2.heap.size, 3, none⟩)) hHeld rfl (by kernel_rfl) (by kernel_rfl) (by kernel_rfl) (fun _ _ _ h => h) (Or.inl ⟨by rfl, ?_⟩) ?_
        · rintro w ⟨⟨q0, q1⟩, ⟨q2, q3, q4, q5⟩, ⟨q6, q7⟩, q8, q9⟩
          go_simp <;> (first | done | decide | omega | (intro _; omega) | (simp; omega))
        try simp only [Act.put, List.setIfInBounds_toArray, List.set_cons_zero, List.set_cons_succ]
        refine tkd 7 58 (.slice ka 0 kc) hHeld rfl (by kernel_rfl) (by kernel_rfl) (by kernel_rfl) (fun _ _ _ h => h) (Or.inl ⟨by rfl, ?_⟩) ?_
        · rintro w ⟨⟨q0, q1⟩, ⟨q2, q3, q4, q5⟩, ⟨q6, q7⟩, q8, q9⟩
          go_simp <;> (first | done | decide | omega | (intro _; omega) | (simp; omega))
        try simp only [Act.put, List.setIfInBounds_toArray, List.set_cons_zero, List.set_cons_succ]
        refine tkd 8 59 (.int .i64 0) hHeld rfl (by kernel_rfl) (by kernel_rfl) (by kernel_rfl) (fun _ _ _ h => h) (Or.inl ⟨by rfl, ?_⟩) ?_
        · rintro w ⟨⟨q0, q1⟩, ⟨q2, q3, q4, q5⟩, ⟨q6, q7⟩, q8, q9⟩
          go_simp <;> (first | done | decide | omega | (intro _; omega) | (simp; omega))
        try simp only [Act.put, List.setIfInBounds_toArray, List.set_cons_zero, List.set_cons_succ]
        refine tkd 9 60 (.bool false) hHeld rfl (by kernel_rfl) (by kernel_rfl) (by kernel_rfl) (fun _ _ _ h => h) (Or.inl ⟨by rfl, ?_⟩) ?_
        · rintro w ⟨⟨q0, q1⟩, ⟨q2, q3, q4, q5⟩, ⟨q6, q7⟩, q8, q9⟩
          go_simp <;> (first | done | decide | omega | (intro _; omega) | (simp; omega))
        try simp only [Act.put, List.setIfInBounds_toArray, List.set_cons_zero, List.set_cons_succ]
        refine tkd 10 61 (.bool false) hHeld rfl (by kernel_rfl) (by kernel_rfl) (by kernel_rfl) (fun _ _ _ h => h) (Or.inl ⟨by rfl, ?_⟩) ?_
        · rintro w ⟨⟨q0, q1⟩, ⟨q2, q3, q4, q5⟩, ⟨q6, q7⟩, q8, q9⟩
          go_simp <;> (first | done | decide | omega | (intro _; omega) | (simp; omega))
        try simp only [Act.put, List.setIfInBounds_toArray, List.set_cons_zero, List.set_cons_succ]
        refine tkd 11 62 (.bool false) hHeld rfl (by kernel_rfl) (by kernel_rfl) (by kernel_rfl) (fun _ _ _ h => h) (Or.inl ⟨by rfl, ?_⟩) ?_
        · rintro w ⟨⟨q0, q1⟩, ⟨q2, q3, q4, q5⟩, ⟨q6, q7⟩, q8, q9⟩
          go_simp <;> (first | done | decide | omega | (intro _; omega) | (simp; omega))
        try simp only [Act.put, List.setIfInBounds_toArray, List.set_cons_zero, List.set_cons_succ]
        refine tkd 12 63 (.int .i64 (Z.length : Int)) hHeld rfl (by kernel_rfl) (by kernel_rfl) (by kernel_rfl) (fun _ _ _ h => h) (Or.inl ⟨by rfl, ?_⟩) ?_
        · rintro w ⟨⟨q0, q1⟩, ⟨q2, q3, q4, q5⟩, ⟨q6, q7⟩, q8, q9⟩
          go_simp <;> (first | done | decide | omega | (intro _; omega) | (simp; omega))
        try simp only [Act.put, List.setIfInBounds_toArray, List.set_cons_zero, List.set_cons_succ]
        refine tkd 13 64 (.pointer (some ⟨w1.heap.size, 0, none⟩)) hHeld rfl (by kernel_rfl) (by kernel_rfl) (by kernel_rfl) (fun _ _ _ h => h) (Or.inl ⟨by rfl, ?_⟩) ?_
        · rintro w ⟨⟨q0, q1⟩, ⟨q2, q3, q4, q5⟩, ⟨q6, q7⟩, q8, q9⟩
          go_simp <;> (first | done | decide | omega | (intro _; omega) | (simp; omega))
        try simp only [Act.put, List.setIfInBounds_toArray, List.set_cons_zero, List.set_cons_succ]
        refine tkd 14 65 (.slice sa S.length sc) hHeld rfl (by kernel_rfl) (by kernel_rfl) (by kernel_rfl) (fun _ _ _ h => h) (Or.inl ⟨by rfl, ?_⟩) ?_
        · rintro w ⟨⟨q0, q1⟩, ⟨q2, q3, q4, q5⟩, ⟨q6, q7⟩, q8, q9⟩
          go_simp <;> (first | done | decide | omega | (intro _; omega) | (simp; omega))
        try simp only [Act.put, List.setIfInBounds_toArray, List.set_cons_zero, List.set_cons_succ]
        refine tkd 15 66 (.int .i64 (S.length : Int)) hHeld rfl (by kernel_rfl) (by kernel_rfl) (by kernel_rfl) (fun _ _ _ h => h) (Or.inl ⟨by rfl, ?_⟩) ?_
        · rintro w ⟨⟨q0, q1⟩, ⟨q2, q3, q4, q5⟩, ⟨q6, q7⟩, q8, q9⟩
          go_simp <;> (first | done | decide | omega | (intro _; omega) | (simp; omega))
        try simp only [Act.put, List.setIfInBounds_toArray, List.set_cons_zero, List.set_cons_succ]
        refine tkd 16 67 (.bool false) hHeld rfl (by kernel_rfl) (by kernel_rfl) (by kernel_rfl) (fun _ _ _ h => h) (Or.inl ⟨by rfl, ?_⟩) ?_
        · rintro w ⟨⟨q0, q1⟩, ⟨q2, q3, q4, q5⟩, ⟨q6, q7⟩, q8, q9⟩
          go_simp <;> (first | done | decide | omega | (intro _; omega) | (simp; omega))
        try simp only [Act.put, List.setIfInBounds_toArray, List.set_cons_zero, List.set_cons_succ]
        refine tkd 17 68 (.bool false) hHeld rfl (by kernel_rfl) (by kernel_rfl) (by kernel_rfl) (fun _ _ _ h => h) (Or.inl ⟨by rfl, ?_⟩) ?_
        · rintro w ⟨⟨q0, q1⟩, ⟨q2, q3, q4, q5⟩, ⟨q6, q7⟩, q8, q9⟩
          go_simp <;> (first | done | decide | omega | (intro _; omega) | (simp; omega))
        try simp only [Act.put, List.setIfInBounds_toArray, List.set_cons_zero, List.set_cons_succ]
        refine tkd 18 69 (.bool false) hHeld rfl (by kernel_rfl) (by kernel_rfl) (by kernel_rfl) (fun _ _ _ h => h) (Or.inl ⟨by rfl, ?_⟩) ?_
        · rintro w ⟨⟨q0, q1⟩, ⟨q2, q3, q4, q5⟩, ⟨q6, q7⟩, q8, q9⟩
          go_simp <;> (first | done | decide | omega | (intro _; omega) | (simp; omega))
        try simp only [Act.put, List.setIfInBounds_toArray, List.set_cons_zero, List.set_cons_succ]
        refine tkd 19 70 (.int .i64 (Z.length : Int)) hHeld rfl (by kernel_rfl) (by kernel_rfl) (by kernel_rfl) (fun _ _ _ h => h) (Or.inl ⟨by rfl, ?_⟩) ?_
        · rintro w ⟨⟨q0, q1⟩, ⟨q2, q3, q4, q5⟩, ⟨q6, q7⟩, q8, q9⟩
          go_simp <;> (first | done | decide | omega | (intro _; omega) | (simp; omega))
        try simp only [Act.put, List.setIfInBounds_toArray, List.set_cons_zero, List.set_cons_succ]
        refine tkd 20 71 (.slice none N.length cv4) hHeld rfl (by kernel_rfl) (by kernel_rfl) (by kernel_rfl) (fun _ _ _ h => h) (Or.inl ⟨by rfl, ?_⟩) ?_
        · rintro w ⟨⟨q0, q1⟩, ⟨q2, q3, q4, q5⟩, ⟨q6, q7⟩, q8, q9⟩
          go_simp <;> (first | done | decide | omega | (intro _; omega) | (simp; omega))
        try simp only [Act.put, List.setIfInBounds_toArray, List.set_cons_zero, List.set_cons_succ]
        refine tkd 21 72 (.int .i64 (N.length : Int)) hHeld rfl (by kernel_rfl) (by kernel_rfl) (by kernel_rfl) (fun _ _ _ h => h) (Or.inl ⟨by rfl, ?_⟩) ?_
        · rintro w ⟨⟨q0, q1⟩, ⟨q2, q3, q4, q5⟩, ⟨q6, q7⟩, q8, q9⟩
          go_simp <;> (first | done | decide | omega | (intro _; omega) | (simp; omega))
        try simp only [Act.put, List.setIfInBounds_toArray, List.set_cons_zero, List.set_cons_succ]
        refine tkd 22 73 (.bool false) hHeld rfl (by kernel_rfl) (by kernel_rfl) (by kernel_rfl) (fun _ _ _ h => h) (Or.inl ⟨by rfl, ?_⟩) ?_
        · rintro w ⟨⟨q0, q1⟩, ⟨q2, q3, q4, q5⟩, ⟨q6, q7⟩, q8, q9⟩
          go_simp <;> (first | done | decide | omega | (intro _; omega) | (simp; omega))
        try simp only [Act.put, List.setIfInBounds_toArray, List.set_cons_zero, List.set_cons_succ]
        refine tkd 23 74 (.bool false) hHeld rfl (by kernel_rfl) (by kernel_rfl) (by kernel_rfl) (fun _ _ _ h => h) (Or.inl ⟨by rfl, ?_⟩) ?_
        · rintro w ⟨⟨q0, q1⟩, ⟨q2, q3, q4, q5⟩, ⟨q6, q7⟩, q8, q9⟩
          go_simp <;> (first | done | decide | omega | (intro _; omega) | (simp; omega))
        try simp only [Act.put, List.setIfInBounds_toArray, List.set_cons_zero, List.set_cons_succ]
        refine tkd 24 75 (.bool false) hHeld rfl (by kernel_rfl) (by kernel_rfl) (by kernel_rfl) (fun _ _ _ h => h) (Or.inl ⟨by rfl, ?_⟩) ?_
        · rintro w ⟨⟨q0, q1⟩, ⟨q2, q3, q4, q5⟩, ⟨q6, q7⟩, q8, q9⟩
          go_simp <;> (first | done | decide | omega | (intro _; omega) | (simp; omega))
        try simp only [Act.put, List.setIfInBounds_toArray, List.set_cons_zero, List.set_cons_succ]
        refine tkd 25 76 (.slice none N.length cv4) hHeld rfl (by kernel_rfl) (by kernel_rfl) (by kernel_rfl) (fun _ _ _ h => h) (Or.inl ⟨by rfl, ?_⟩) ?_
        · rintro w ⟨⟨q0, q1⟩, ⟨q2, q3, q4, q5⟩, ⟨q6, q7⟩, q8, q9⟩
          go_simp <;> (first | done | decide | omega | (intro _; omega) | (simp; omega))
        try simp only [Act.put, List.setIfInBounds_toArray, List.set_cons_zero, List.set_cons_succ]
        refine tkd 26 77 (.int .i64 (Z.length : Int)) hHeld rfl (by kernel_rfl) (by kernel_rfl) (by kernel_rfl) (fun _ _ _ h => h) (Or.inl ⟨by rfl, ?_⟩) ?_
        · rintro w ⟨⟨q0, q1⟩, ⟨q2, q3, q4, q5⟩, ⟨q6, q7⟩, q8, q9⟩
          go_simp <;> (first | done | decide | omega | (intro _; omega) | (simp; omega))
        try simp only [Act.put, List.setIfInBounds_toArray, List.set_cons_zero, List.set_cons_succ]
        refine tkd 27 78 (.slice none Z.length cv4) hHeld rfl (by kernel_rfl) (by kernel_rfl) (by kernel_rfl) (fun _ _ _ h => h) (Or.inl ⟨by rfl, ?_⟩) ?_
        · rintro w ⟨⟨q0, q1⟩, ⟨q2, q3, q4, q5⟩, ⟨q6, q7⟩, q8, q9⟩
          go_simp <;> (first | done | decide | omega | (intro _; omega) | (simp; omega))
        try simp only [Act.put, List.setIfInBounds_toArray, List.set_cons_zero, List.set_cons_succ]
        refine tkd 28 79 (.string (strOfNums Z)) hHeld rfl (by kernel_rfl) (by kernel_rfl) (by kernel_rfl) (fun _ _ _ h => h) (Or.inl ⟨by rfl, ?_⟩) ?_
        · rintro w ⟨⟨q0, q1⟩, ⟨q2, q3, q4, q5⟩, ⟨q6, q7⟩, q8, q9⟩
          go_simp <;> (first | done | decide | omega | (intro _; omega) | (simp; omega))
        try simp only [Act.put, List.setIfInBounds_toArray, List.set_cons_zero, List.set_cons_succ]
        refine tkd 29 80 (.pointer (some ⟨w2.heap.size, 2, none⟩)) hHeld rfl (by kernel_rfl) (by kernel_rfl) (by kernel_rfl) (fun _ _ _ h => h) (Or.inl ⟨by rfl, ?_⟩) ?_
        · rintro w ⟨⟨q0, q1⟩, ⟨q2, q3, q4, q5⟩, ⟨q6, q7⟩, q8, q9⟩
          go_simp <;> (first | done | decide | omega | (intro _; omega) | (simp; omega))
        try simp only [Act.put, List.setIfInBounds_toArray, List.set_cons_zero, List.set_cons_succ]
        refine tkd 30 81 (.pointer (some ⟨w2.heap.size, 2, none⟩)) hHeld rfl (by kernel_rfl) (by kernel_rfl) (by kernel_rfl) (fun _ _ _ h => h) (Or.inl ⟨by rfl, ?_⟩) ?_
        · rintro w ⟨⟨q0, q1⟩, ⟨q2, q3, q4, q5⟩, ⟨q6, q7⟩, q8, q9⟩
          go_simp <;> (first | done | decide | omega | (intro _; omega) | (simp; omega))
        try simp only [Act.put, List.setIfInBounds_toArray, List.set_cons_zero, List.set_cons_succ]
        refine tkd 31 82 (.slice ja Z.length jc) hHeld rfl (by kernel_rfl) (by kernel_rfl) (by kernel_rfl) (fun _ _ _ h => h) (Or.inl ⟨by rfl, ?_⟩) ?_
        · rintro w ⟨⟨q0, q1⟩, ⟨q2, q3, q4, q5⟩, ⟨q6, q7⟩, q8, q9⟩
          go_simp <;> (first | done | decide | omega | (intro _; omega) | (simp; omega))
        try simp only [Act.put, List.setIfInBounds_toArray, List.set_cons_zero, List.set_cons_succ]
        refine tkd 32 83 (.string (strOfNums Z)) hHeld rfl (by kernel_rfl) (by kernel_rfl) (by kernel_rfl) (fun _ _ _ h => h) (Or.inl ⟨by rfl, ?_⟩) ?_
        · rintro w ⟨⟨q0, q1⟩, ⟨q2, q3, q4, q5⟩, ⟨q6, q7⟩, q8, q9⟩
          go_simp <;> (first | done | decide | omega | (intro _; omega) | (simp; omega))
        try simp only [Act.put, List.setIfInBounds_toArray, List.set_cons_zero, List.set_cons_succ]
        refine tkd 33 84 (.bool false) hHeld rfl (by kernel_rfl) (by kernel_rfl) (by kernel_rfl) (fun _ _ _ h => h) (Or.inl ⟨by rfl, ?_⟩) ?_
        · rintro w ⟨⟨q0, q1⟩, ⟨q2, q3, q4, q5⟩, ⟨q6, q7⟩, q8, q9⟩
          go_simp <;> (first | done | decide | omega | (intro _; omega) | (simp; omega))
        try simp only [Act.put, List.setIfInBounds_toArray, List.set_cons_zero, List.set_cons_succ]
        refine tkd 34 85 (.bool false) hHeld rfl (by kernel_rfl) (by kernel_rfl) (by kernel_rfl) (fun _ _ _ h => h) (Or.inl ⟨by rfl, ?_⟩) ?_
        · rintro w ⟨⟨q0, q1⟩, ⟨q2, q3, q4, q5⟩, ⟨q6, q7⟩, q8, q9⟩
          go_simp <;> (first | done | decide | omega | (intro _; omega) | (simp; omega))
        try simp only [Act.put, List.setIfInBounds_toArray, List.set_cons_zero, List.set_cons_succ]
        refine tkd 35 86 (.bool false) hHeld rfl (by kernel_rfl) (by kernel_rfl) (by kernel_rfl) (fun _ _ _ h => h) (Or.inl ⟨by rfl, ?_⟩) ?_
        · rintro w ⟨⟨q0, q1⟩, ⟨q2, q3, q4, q5⟩, ⟨q6, q7⟩, q8, q9⟩
          go_simp <;> (first | done | decide | omega | (intro _; omega) | (simp; omega))
        try simp only [Act.put, List.setIfInBounds_toArray, List.set_cons_zero, List.set_cons_succ]
        refine tkd 36 87 (.pointer (some ⟨w5.heap.size, 1, none⟩)) hHeld rfl (by kernel_rfl) (by kernel_rfl) (by kernel_rfl) (fun _ _ _ h => h) (Or.inl ⟨by rfl, ?_⟩) ?_
        · rintro w ⟨⟨q0, q1⟩, ⟨q2, q3, q4, q5⟩, ⟨q6, q7⟩, q8, q9⟩
          go_simp <;> (first | done | decide | omega | (intro _; omega) | (simp; omega))
        try simp only [Act.put, List.setIfInBounds_toArray, List.set_cons_zero, List.set_cons_succ]
        refine tkd 37 88 (.slice na cn nc) hHeld rfl (by kernel_rfl) (by kernel_rfl) (by kernel_rfl) (fun _ _ _ h => h) (Or.inl ⟨by rfl, ?_⟩) ?_
        · rintro w ⟨⟨q0, q1⟩, ⟨q2, q3, q4, q5⟩, ⟨q6, q7⟩, q8, q9⟩
          go_simp <;> (first | done | decide | omega | (intro _; omega) | (simp; omega))
        try simp only [Act.put, List.setIfInBounds_toArray, List.set_cons_zero, List.set_cons_succ]
        refine tkd 38 89 (.int .i64 (cn : Int)) hHeld rfl (by kernel_rfl) (by kernel_rfl) (by kernel_rfl) (fun _ _ _ h => h) (Or.inl ⟨by rfl, ?_⟩) ?_
        · rintro w ⟨⟨q0, q1⟩, ⟨q2, q3, q4, q5⟩, ⟨q6, q7⟩, q8, q9⟩
          go_simp <;> (first | done | decide | omega | (intro _; omega) | (simp; omega))
        try simp only [Act.put, List.setIfInBounds_toArray, List.set_cons_zero, List.set_cons_succ]
        refine tkd 39 90 (.pointer (some ⟨w2.heap.size, 1, none⟩)) hHeld rfl (by kernel_rfl) (by kernel_rfl) (by kernel_rfl) (fun _ _ _ h => h) (Or.inl ⟨by rfl, ?_⟩) ?_
        · rintro w ⟨⟨q0, q1⟩, ⟨q2, q3, q4, q5⟩, ⟨q6, q7⟩, q8, q9⟩
          go_simp <;> (first | done | decide | omega | (intro _; omega) | (simp; omega))
        try simp only [Act.put, List.setIfInBounds_toArray, List.set_cons_zero, List.set_cons_succ]
        refine tkd 40 91 (.int .i64 cnt) hHeld rfl (by kernel_rfl) (by kernel_rfl) (by kernel_rfl) (fun _ _ _ h => h) (Or.inl ⟨by rfl, ?_⟩) ?_
        · rintro w ⟨⟨q0, q1⟩, ⟨q2, q3, q4, q5⟩, ⟨q6, q7⟩, q8, q9⟩
          go_simp <;> (first | done | decide | omega | (intro _; omega) | (simp; omega))
        try simp only [Act.put, List.setIfInBounds_toArray, List.set_cons_zero, List.set_cons_succ]
        refine tkd 41 92 (.bool false) hHeld rfl (by kernel_rfl) (by kernel_rfl) (by kernel_rfl) (fun _ _ _ h => h) (Or.inl ⟨by rfl, ?_⟩) ?_
        · rintro w ⟨⟨q0, q1⟩, ⟨q2, q3, q4, q5⟩, ⟨q6, q7⟩, q8, q9⟩
          go_simp <;> (first | done | decide | omega | (intro _; omega) | (simp; omega))
        try simp only [Act.put, List.setIfInBounds_toArray, List.set_cons_zero, List.set_cons_succ]
        refine tkd 42 93 (.bool false) hHeld rfl (by kernel_rfl) (by kernel_rfl) (by kernel_rfl) (fun _ _ _ h => h) (Or.inl ⟨by rfl, ?_⟩) ?_
        · rintro w ⟨⟨q0, q1⟩, ⟨q2, q3, q4, q5⟩, ⟨q6, q7⟩, q8, q9⟩
          go_simp <;> (first | done | decide | omega | (intro _; omega) | (simp; omega))
        try simp only [Act.put, List.setIfInBounds_toArray, List.set_cons_zero, List.set_cons_succ]
        refine wpAnyH_done (by kernel_rfl) ?_ _
        have T10 := hide (T9.out.below BR.out)
        have R10 := hide (R9.out.below BR.out)
        have Z10 := hide (Z9.out.below BR.out)
        have N10 := hide (N9.out.below BR.out)
        have E10 := hide (E9.out.below BR.out)
        have S10 := hide (S9.out.below BR.out)
        have X10 := hide (X9.out.below BR.out)
        have Y10 := hide (Y0.out.below BR.out)
        have B10 := hide (below_next B9.out BR.out)
        clear KB HZR
        go_wp2_with fail
        refine (HPa.out _).mono ?_
        rintro e w11 ⟨pa, pc, rfl, -, hb11⟩
        have AR := hide (below_next hb11 (below_alloc w11 (.cells #[.int .i64 0, .slice pa 12 pc] 39)))
        have P11 := hide (Two.new w11 (.int .i64 0) (.slice pa 12 pc) 39)
        have N11 := hide (N10.out.below AR.out)
        have S11 := hide (S10.out.below AR.out)
        have X11 := hide (X10.out.below AR.out)
        have Y11 := hide (Y10.out.below AR.out)
        have B11 := hide (below_next B10.out AR.out)
        clear hb11 AR
        obtain ⟨⟨s0, s1, s2, -⟩, -⟩ := S11.out
        obtain ⟨⟨y0, y1, -, -⟩, -⟩ := Y11.out
        obtain ⟨p0, p1⟩ := P11.out
        have hv1 := conv_at (c := cv4) (n := N.length) N11.out rfl
        have hv2 := conv_at (c := xc) (n := N.length) X11.out rfl
        have hsum : ¬ (N.length : Int) + 12 ≤ 2000 := by have h1 := HNLl.out; have h2 := HNl.out; omega
        have hsd : decide ((N.length : Int) + 12 ≤ 2000) = false := decide_eq_false hsum
        have BE := hide (below_next BD.out B11.out)
        go_wp2_with (go_at_call 18; refine (HLi.out _).mono ?_; rintro e wM ⟨rfl, hwM⟩; subst hwM)
        go_ret
        exact ⟨rfl, BE.out⟩
      | some g4 =>
        have HZR := hide (fun (u : World) (hb : Below W9.heap.size W9 u) => show Reads .u8 u (some g4) Z from by
          rw [← HZT.out]
          intro hne
          obtain ⟨b, off, e, hb', hc⟩ := (N9.out.below hb) (fun e => hne (by simp [e]))
          refine ⟨b, off, e, hb', fun i hi => ?_⟩
          rw [List.length_take] at hi
          rw [hc i (by omega)]
          simp only [List.getD_eq_getElem?_getD, List.getElem?_take]
          rw [if_pos (by omega)])
        have KB : Hid (∀ u : World, Below W9.heap.size W9 u → (u.cell? ⟨w1.heap.size, 0, none⟩ = some (.slice sa S.length sc) ∧ u.cell? ⟨w1.heap.size, 1, none⟩ = some (.slice la L.length lc)) ∧ (u.cell? ⟨w2.heap.size, 0, none⟩ = some (.int .i64 0) ∧ u.cell? ⟨w2.heap.size, 1, none⟩ = some (.int .i64 cnt) ∧ u.cell? ⟨w2.heap.size, 2, none⟩ = some (.slice ja Z.length jc) ∧ u.cell? ⟨w2.heap.size, 3, none⟩ = some (.slice ka 0 kc)) ∧ (u.cell? ⟨w5.heap.size, 0, none⟩ = some (.int .i64 0) ∧ u.cell? ⟨w5.heap.size, 1, none⟩ = some (.slice na cn nc)) ∧ Sem.run Try.prog (convert 22 9 (.slice (some g4) Z.length cv4)) u = .ok (.string (strOfNums Z)) u ∧ Sem.run Try.prog (convert 22 9 (.slice ja Z.length jc)) u = .ok (.string (strOfNums Z)) u) := hide (fun u hb => ⟨T9.out.below hb, (R9.out.below hb).1, E9.out.below hb, conv_at (HZR.out u hb) rfl, conv_at (Z9.out.below hb) rfl⟩)
        refine wp_region_held_drew (S := fun u => (u.cell? ⟨w1.heap.size, 0, none⟩ = some (.slice sa S.length sc) ∧ u.cell? ⟨w1.heap.size, 1, none⟩ = some (.slice la L.length lc)) ∧ (u.cell? ⟨w2.heap.size, 0, none⟩ = some (.int .i64 0) ∧ u.cell? ⟨w2.heap.size, 1, none⟩ = some (.int .i64 cnt) ∧ u.cell? ⟨w2.heap.size, 2, none⟩ = some (.slice ja Z.length jc) ∧ u.cell? ⟨w2.heap.size, 3, none⟩ = some (.slice ka 0 kc)) ∧ (u.cell? ⟨w5.heap.size, 0, none⟩ = some (.int .i64 0) ∧ u.cell? ⟨w5.heap.size, 1, none⟩ = some (.slice na cn nc)) ∧ Sem.run Try.prog (convert 22 9 (.slice (some g4) Z.length cv4)) u = .ok (.string (strOfNums Z)) u ∧ Sem.run Try.prog (convert 22 9 (.slice ja Z.length jc)) u = .ok (.string (strOfNums Z)) u) (by kernel_rfl) (KB.out _ (Below.refl _ _).drew) (fun hHeld => ?_)
        change wpAnyH _ _ _ _ _ _ (Array.replicate _ false) _ (World.drew _)
        have BR := hide ((Below.refl W9.heap.size W9).drew)
        have hsD9 : W9.heap.size ≤ W9.drew.heap.size := Nat.le_refl _
        generalize W9.drew = D9 at *
        have hcnt0 := HCNT.out
        refine tkd 0 51 (.pointer (some ⟨w2.heap.size, 2, none⟩)) hHeld rfl (by kernel_rfl) (by kernel_rfl) (by kernel_rfl) (fun _ _ _ h => h) (Or.inl ⟨by rfl, ?_⟩) ?_
        · rintro w ⟨⟨q0, q1⟩, ⟨q2, q3, q4, q5⟩, ⟨q6, q7⟩, q8, q9⟩
          go_simp <;> (first | done | decide | omega | (intro _; omega) | (simp; omega))
        try simp only [Act.put, List.setIfInBounds_toArray, List.set_cons_zero, List.set_cons_succ]
        refine tkd 1 52 (.agg #[.slice ja Z.length jc, .slice ka 0 kc]) hHeld rfl (by kernel_rfl) (by kernel_rfl) (by kernel_rfl) (fun _ _ _ h => h) (Or.inl ⟨by rfl, ?_⟩) ?_
        · rintro w ⟨⟨q0, q1⟩, ⟨q2, q3, q4, q5⟩, ⟨q6, q7⟩, q8, q9⟩
          go_simp <;> (first | done | decide | omega | (intro _; omega) | (simp; omega))
        try simp only [Act.put, List.setIfInBounds_toArray, List.set_cons_zero, List.set_cons_succ]
        refine wpAnyH_ready (rs := [2]) (by kernel_rfl) (by simp) ?_
        refine AllReadyH.cons rfl (fun K hK => ?_) AllReadyH.nil
        go_simp
        refine (HLo'.out D9 ja ka jc kc (Z9.out.below BR.out) hjc).mono ?_
        rintro e wL ⟨rfl, hbL⟩
        have BRn := hide (below_next BR.out hbL)
        clear hbL BR
        have BR := BRn
        clear BRn
        go_wp2_with fail
        refine hK.out _ _ (KB.out _ BR.out) (fun hHeld => ?_)
        clear hK K
        try simp only [Act.put, List.setIfInBounds_toArray, List.set_cons_zero, List.set_cons_succ]
        refine tkd 3 54 (.bool false) hHeld rfl (by kernel_rfl) (by kernel_rfl) (by kernel_rfl) (fun _ _ _ h => h) (Or.inl ⟨by rfl, ?_⟩) ?_
        · rintro w ⟨⟨q0, q1⟩, ⟨q2, q3, q4, q5⟩, ⟨q6, q7⟩, q8, q9⟩
          go_simp <;> (first | done | decide | omega | (intro _; omega) | (simp; omega))
        try simp only [Act.put, List.setIfInBounds_toArray, List.set_cons_zero, List.set_cons_succ]
        refine tkd 4 55 (.bool false) hHeld rfl (by kernel_rfl) (by kernel_rfl) (by kernel_rfl) (fun _ _ _ h => h) (Or.inl ⟨by rfl, ?_⟩) ?_
        · rintro w ⟨⟨q0, q1⟩, ⟨q2, q3, q4, q5⟩, ⟨q6, q7⟩, q8, q9⟩
          go_simp <;> (first | done | decide | omega | (intro _; omega) | (simp; omega))
        try simp only [Act.put, List.setIfInBounds_toArray, List.set_cons_zero, List.set_cons_succ]
        refine tkd 5 56 (.pointer (some ⟨w2.heap.size, 2, none⟩)) hHeld rfl (by kernel_rfl) (by kernel_rfl) (by kernel_rfl) (fun _ _ _ h => h) (Or.inl ⟨by rfl, ?_⟩) ?_
        · rintro w ⟨⟨q0, q1⟩, ⟨q2, q3, q4, q5⟩, ⟨q6, q7⟩, q8, q9⟩
          go_simp <;> (first | done | decide | omega | (intro _; omega) | (simp; omega))
        try simp only [Act.put, List.setIfInBounds_toArray, List.set_cons_zero, List.set_cons_succ]
        refine tkd 6 57 (.pointer (some ⟨w2.heap.size, 3, none⟩)) hHeld rfl (by kernel_rfl) (by kernel_rfl) (by kernel_rfl) (fun _ _ _ h => h) (Or.inl ⟨by rfl, ?_⟩) ?_
        · rintro w ⟨⟨q0, q1⟩, ⟨q2, q3, q4, q5⟩, ⟨q6, q7⟩, q8, q9⟩
          go_simp <;> (first | done | decide | omega | (intro _; omega) | (simp; omega))
        try simp only [Act.put, List.setIfInBounds_toArray, List.set_cons_zero, List.set_cons_succ]
        refine tkd 7 58 (.slice ka 0 kc) hHeld rfl (by kernel_rfl) (by kernel_rfl) (by kernel_rfl) (fun _ _ _ h => h) (Or.inl ⟨by rfl, ?_⟩) ?_
        · rintro w ⟨⟨q0, q1⟩, ⟨q2, q3, q4, q5⟩, ⟨q6, q7⟩, q8, q9⟩
          go_simp <;> (first | done | decide | omega | (intro _; omega) | (simp; omega))
        try simp only [Act.put, List.setIfInBounds_toArray, List.set_cons_zero, List.set_cons_succ]
        refine tkd 8 59 (.int .i64 0) hHeld rfl (by kernel_rfl) (by kernel_rfl) (by kernel_rfl) (fun _ _ _ h => h) (Or.inl ⟨by rfl, ?_⟩) ?_
        · rintro w ⟨⟨q0, q1⟩, ⟨q2, q3, q4, q5⟩, ⟨q6, q7⟩, q8, q9⟩
          go_simp <;> (first | done | decide | omega | (intro _; omega) | (simp; omega))
        try simp only [Act.put, List.setIfInBounds_toArray, List.set_cons_zero, List.set_cons_succ]
        refine tkd 9 60 (.bool false) hHeld rfl (by kernel_rfl) (by kernel_rfl) (by kernel_rfl) (fun _ _ _ h => h) (Or.inl ⟨by rfl, ?_⟩) ?_
        · rintro w ⟨⟨q0, q1⟩, ⟨q2, q3, q4, q5⟩, ⟨q6, q7⟩, q8, q9⟩
          go_simp <;> (first | done | decide | omega | (intro _; omega) | (simp; omega))
        try simp only [Act.put, List.setIfInBounds_toArray, List.set_cons_zero, List.set_cons_succ]
        refine tkd 10 61 (.bool false) hHeld rfl (by kernel_rfl) (by kernel_rfl) (by kernel_rfl) (fun _ _ _ h => h) (Or.inl ⟨by rfl, ?_⟩) ?_
        · rintro w ⟨⟨q0, q1⟩, ⟨q2, q3, q4, q5⟩, ⟨q6, q7⟩, q8, q9⟩
          go_simp <;> (first | done | decide | omega | (intro _; omega) | (simp; omega))
        try simp only [Act.put, List.setIfInBounds_toArray, List.set_cons_zero, List.set_cons_succ]
        refine tkd 11 62 (.bool false) hHeld rfl (by kernel_rfl) (by kernel_rfl) (by kernel_rfl) (fun _ _ _ h => h) (Or.inl ⟨by rfl, ?_⟩) ?_
        · rintro w ⟨⟨q0, q1⟩, ⟨q2, q3, q4, q5⟩, ⟨q6, q7⟩, q8, q9⟩
          go_simp <;> (first | done | decide | omega | (intro _; omega) | (simp; omega))
        try simp only [Act.put, List.setIfInBounds_toArray, List.set_cons_zero, List.set_cons_succ]
        refine tkd 12 63 (.int .i64 (Z.length : Int)) hHeld rfl (by kernel_rfl) (by kernel_rfl) (by kernel_rfl) (fun _ _ _ h => h) (Or.inl ⟨by rfl, ?_⟩) ?_
        · rintro w ⟨⟨q0, q1⟩, ⟨q2, q3, q4, q5⟩, ⟨q6, q7⟩, q8, q9⟩
          go_simp <;> (first | done | decide | omega | (intro _; omega) | (simp; omega))
        try simp only [Act.put, List.setIfInBounds_toArray, List.set_cons_zero, List.set_cons_succ]
        refine tkd 13 64 (.pointer (some ⟨w1.heap.size, 0, none⟩)) hHeld rfl (by kernel_rfl) (by kernel_rfl) (by kernel_rfl) (fun _ _ _ h => h) (Or.inl ⟨by rfl, ?_⟩) ?_
        · rintro w ⟨⟨q0, q1⟩, ⟨q2, q3, q4, q5⟩, ⟨q6, q7⟩, q8, q9⟩
          go_simp <;> (first | done | decide | omega | (intro _; omega) | (simp; omega))
        try simp only [Act.put, List.setIfInBounds_toArray, List.set_cons_zero, List.set_cons_succ]
        refine tkd 14 65 (.slice sa S.length sc) hHeld rfl (by kernel_rfl) (by kernel_rfl) (by kernel_rfl) (fun _ _ _ h => h) (Or.inl ⟨by rfl, ?_⟩) ?_
        · rintro w ⟨⟨q0, q1⟩, ⟨q2, q3, q4, q5⟩, ⟨q6, q7⟩, q8, q9⟩
          go_simp <;> (first | done | decide | omega | (intro _; omega) | (simp; omega))
        try simp only [Act.put, List.setIfInBounds_toArray, List.set_cons_zero, List.set_cons_succ]
        refine tkd 15 66 (.int .i64 (S.length : Int)) hHeld rfl (by kernel_rfl) (by kernel_rfl) (by kernel_rfl) (fun _ _ _ h => h) (Or.inl ⟨by rfl, ?_⟩) ?_
        · rintro w ⟨⟨q0, q1⟩, ⟨q2, q3, q4, q5⟩, ⟨q6, q7⟩, q8, q9⟩
          go_simp <;> (first | done | decide | omega | (intro _; omega) | (simp; omega))
        try simp only [Act.put, List.setIfInBounds_toArray, List.set_cons_zero, List.set_cons_succ]
        refine tkd 16 67 (.bool false) hHeld rfl (by kernel_rfl) (by kernel_rfl) (by kernel_rfl) (fun _ _ _ h => h) (Or.inl ⟨by rfl, ?_⟩) ?_
        · rintro w ⟨⟨q0, q1⟩, ⟨q2, q3, q4, q5⟩, ⟨q6, q7⟩, q8, q9⟩
          go_simp <;> (first | done | decide | omega | (intro _; omega) | (simp; omega))
        try simp only [Act.put, List.setIfInBounds_toArray, List.set_cons_zero, List.set_cons_succ]
        refine tkd 17 68 (.bool false) hHeld rfl (by kernel_rfl) (by kernel_rfl) (by kernel_rfl) (fun _ _ _ h => h) (Or.inl ⟨by rfl, ?_⟩) ?_
        · rintro w ⟨⟨q0, q1⟩, ⟨q2, q3, q4, q5⟩, ⟨q6, q7⟩, q8, q9⟩
          go_simp <;> (first | done | decide | omega | (intro _; omega) | (simp; omega))
        try simp only [Act.put, List.setIfInBounds_toArray, List.set_cons_zero, List.set_cons_succ]
        refine tkd 18 69 (.bool false) hHeld rfl (by kernel_rfl) (by kernel_rfl) (by kernel_rfl) (fun _ _ _ h => h) (Or.inl ⟨by rfl, ?_⟩) ?_
        · rintro w ⟨⟨q0, q1⟩, ⟨q2, q3, q4, q5⟩, ⟨q6, q7⟩, q8, q9⟩
          go_simp <;> (first | done | decide | omega | (intro _; omega) | (simp; omega))
        try simp only [Act.put, List.setIfInBounds_toArray, List.set_cons_zero, List.set_cons_succ]
        refine tkd 19 70 (.int .i64 (Z.length : Int)) hHeld rfl (by kernel_rfl) (by kernel_rfl) (by kernel_rfl) (fun _ _ _ h => h) (Or.inl ⟨by rfl, ?_⟩) ?_
        · rintro w ⟨⟨q0, q1⟩, ⟨q2, q3, q4, q5⟩, ⟨q6, q7⟩, q8, q9⟩
          go_simp <;> (first | done | decide | omega | (intro _; omega) | (simp; omega))
        try simp only [Act.put, List.setIfInBounds_toArray, List.set_cons_zero, List.set_cons_succ]
        refine tkd 20 71 (.slice (some g4) N.length cv4) hHeld rfl (by kernel_rfl) (by kernel_rfl) (by kernel_rfl) (fun _ _ _ h => h) (Or.inl ⟨by rfl, ?_⟩) ?_
        · rintro w ⟨⟨q0, q1⟩, ⟨q2, q3, q4, q5⟩, ⟨q6, q7⟩, q8, q9⟩
          go_simp <;> (first | done | decide | omega | (intro _; omega) | (simp; omega))
        try simp only [Act.put, List.setIfInBounds_toArray, List.set_cons_zero, List.set_cons_succ]
        refine tkd 21 72 (.int .i64 (N.length : Int)) hHeld rfl (by kernel_rfl) (by kernel_rfl) (by kernel_rfl) (fun _ _ _ h => h) (Or.inl ⟨by rfl, ?_⟩) ?_
        · rintro w ⟨⟨q0, q1⟩, ⟨q2, q3, q4, q5⟩, ⟨q6, q7⟩, q8, q9⟩
          go_simp <;> (first | done | decide | omega | (intro _; omega) | (simp; omega))
        try simp only [Act.put, List.setIfInBounds_toArray, List.set_cons_zero, List.set_cons_succ]
        refine tkd 22 73 (.bool false) hHeld rfl (by kernel_rfl) (by kernel_rfl) (by kernel_rfl) (fun _ _ _ h => h) (Or.inl ⟨by rfl, ?_⟩) ?_
        · rintro w ⟨⟨q0, q1⟩, ⟨q2, q3, q4, q5⟩, ⟨q6, q7⟩, q8, q9⟩
          go_simp <;> (first | done | decide | omega | (intro _; omega) | (simp; omega))
        try simp only [Act.put, List.setIfInBounds_toArray, List.set_cons_zero, List.set_cons_succ]
        refine tkd 23 74 (.bool false) hHeld rfl (by kernel_rfl) (by kernel_rfl) (by kernel_rfl) (fun _ _ _ h => h) (Or.inl ⟨by rfl, ?_⟩) ?_
        · rintro w ⟨⟨q0, q1⟩, ⟨q2, q3, q4, q5⟩, ⟨q6, q7⟩, q8, q9⟩
          go_simp <;> (first | done | decide | omega | (intro _; omega) | (simp; omega))
        try simp only [Act.put, List.setIfInBounds_toArray, List.set_cons_zero, List.set_cons_succ]
        refine tkd 24 75 (.bool false) hHeld rfl (by kernel_rfl) (by kernel_rfl) (by kernel_rfl) (fun _ _ _ h => h) (Or.inl ⟨by rfl, ?_⟩) ?_
        · rintro w ⟨⟨q0, q1⟩, ⟨q2, q3, q4, q5⟩, ⟨q6, q7⟩, q8, q9⟩
          go_simp <;> (first | done | decide | omega | (intro _; omega) | (simp; omega))
        try simp only [Act.put, List.setIfInBounds_toArray, List.set_cons_zero, List.set_cons_succ]
        refine tkd 25 76 (.slice (some g4) N.length cv4) hHeld rfl (by kernel_rfl) (by kernel_rfl) (by kernel_rfl) (fun _ _ _ h => h) (Or.inl ⟨by rfl, ?_⟩) ?_
        · rintro w ⟨⟨q0, q1⟩, ⟨q2, q3, q4, q5⟩, ⟨q6, q7⟩, q8, q9⟩
          go_simp <;> (first | done | decide | omega | (intro _; omega) | (simp; omega))
        try simp only [Act.put, List.setIfInBounds_toArray, List.set_cons_zero, List.set_cons_succ]
        refine tkd 26 77 (.int .i64 (Z.length : Int)) hHeld rfl (by kernel_rfl) (by kernel_rfl) (by kernel_rfl) (fun _ _ _ h => h) (Or.inl ⟨by rfl, ?_⟩) ?_
        · rintro w ⟨⟨q0, q1⟩, ⟨q2, q3, q4, q5⟩, ⟨q6, q7⟩, q8, q9⟩
          go_simp <;> (first | done | decide | omega | (intro _; omega) | (simp; omega))
        try simp only [Act.put, List.setIfInBounds_toArray, List.set_cons_zero, List.set_cons_succ]
        refine tkd 27 78 (.slice (some g4) Z.length cv4) hHeld rfl (by kernel_rfl) (by kernel_rfl) (by kernel_rfl) (fun _ _ _ h => h) (Or.inl ⟨by rfl, ?_⟩) ?_
        · rintro w ⟨⟨q0, q1⟩, ⟨q2, q3, q4, q5⟩, ⟨q6, q7⟩, q8, q9⟩
          go_simp <;> (first | done | decide | omega | (intro _; omega) | (simp; omega))
        try simp only [Act.put, List.setIfInBounds_toArray, List.set_cons_zero, List.set_cons_succ]
        refine tkd 28 79 (.string (strOfNums Z)) hHeld rfl (by kernel_rfl) (by kernel_rfl) (by kernel_rfl) (fun _ _ _ h => h) (Or.inl ⟨by rfl, ?_⟩) ?_
        · rintro w ⟨⟨q0, q1⟩, ⟨q2, q3, q4, q5⟩, ⟨q6, q7⟩, q8, q9⟩
          go_simp <;> (first | done | decide | omega | (intro _; omega) | (simp; omega))
        try simp only [Act.put, List.setIfInBounds_toArray, List.set_cons_zero, List.set_cons_succ]
        refine tkd 29 80 (.pointer (some ⟨w2.heap.size, 2, none⟩)) hHeld rfl (by kernel_rfl) (by kernel_rfl) (by kernel_rfl) (fun _ _ _ h => h) (Or.inl ⟨by rfl, ?_⟩) ?_
        · rintro w ⟨⟨q0, q1⟩, ⟨q2, q3, q4, q5⟩, ⟨q6, q7⟩, q8, q9⟩
          go_simp <;> (first | done | decide | omega | (intro _; omega) | (simp; omega))
        try simp only [Act.put, List.setIfInBounds_toArray, List.set_cons_zero, List.set_cons_succ]
        refine tkd 30 81 (.pointer (some ⟨w2.heap.size, 2, none⟩)) hHeld rfl (by kernel_rfl) (by kernel_rfl) (by kernel_rfl) (fun _ _ _ h => h) (Or.inl ⟨by rfl, ?_⟩) ?_
        · rintro w ⟨⟨q0, q1⟩, ⟨q2, q3, q4, q5⟩, ⟨q6, q7⟩, q8, q9⟩
          go_simp <;> (first | done | decide | omega | (intro _; omega) | (simp; omega))
        try simp only [Act.put, List.setIfInBounds_toArray, List.set_cons_zero, List.set_cons_succ]
        refine tkd 31 82 (.slice ja Z.length jc) hHeld rfl (by kernel_rfl) (by kernel_rfl) (by kernel_rfl) (fun _ _ _ h => h) (Or.inl ⟨by rfl, ?_⟩) ?_
        · rintro w ⟨⟨q0, q1⟩, ⟨q2, q3, q4, q5⟩, ⟨q6, q7⟩, q8, q9⟩
          go_simp <;> (first | done | decide | omega | (intro _; omega) | (simp; omega))
        try simp only [Act.put, List.setIfInBounds_toArray, List.set_cons_zero, List.set_cons_succ]
        refine tkd 32 83 (.string (strOfNums Z)) hHeld rfl (by kernel_rfl) (by kernel_rfl) (by kernel_rfl) (fun _ _ _ h => h) (Or.inl ⟨by rfl, ?_⟩) ?_
        · rintro w ⟨⟨q0, q1⟩, ⟨q2, q3, q4, q5⟩, ⟨q6, q7⟩, q8, q9⟩
          go_simp <;> (first | done | decide | omega | (intro _; omega) | (simp; omega))
        try simp only [Act.put, List.setIfInBounds_toArray, List.set_cons_zero, List.set_cons_succ]
        refine tkd 33 84 (.bool false) hHeld rfl (by kernel_rfl) (by kernel_rfl) (by kernel_rfl) (fun _ _ _ h => h) (Or.inl ⟨by rfl, ?_⟩) ?_
        · rintro w ⟨⟨q0, q1⟩, ⟨q2, q3, q4, q5⟩, ⟨q6, q7⟩, q8, q9⟩
          go_simp <;> (first | done | decide | omega | (intro _; omega) | (simp; omega))
        try simp only [Act.put, List.setIfInBounds_toArray, List.set_cons_zero, List.set_cons_succ]
        refine tkd 34 85 (.bool false) hHeld rfl (by kernel_rfl) (by kernel_rfl) (by kernel_rfl) (fun _ _ _ h => h) (Or.inl ⟨by rfl, ?_⟩) ?_
        · rintro w ⟨⟨q0, q1⟩, ⟨q2, q3, q4, q5⟩, ⟨q6, q7⟩, q8, q9⟩
          go_simp <;> (first | done | decide | omega | (intro _; omega) | (simp; omega))
        try simp only [Act.put, List.setIfInBounds_toArray, List.set_cons_zero, List.set_cons_succ]
        refine tkd 35 86 (.bool false) hHeld rfl (by kernel_rfl) (by kernel_rfl) (by kernel_rfl) (fun _ _ _ h => h) (Or.inl ⟨by rfl, ?_⟩) ?_
        · rintro w ⟨⟨q0, q1⟩, ⟨q2, q3, q4, q5⟩, ⟨q6, q7⟩, q8, q9⟩
          go_simp <;> (first | done | decide | omega | (intro _; omega) | (simp; omega))
        try simp only [Act.put, List.setIfInBounds_toArray, List.set_cons_zero, List.set_cons_succ]
        refine tkd 36 87 (.pointer (some ⟨w5.heap.size, 1, none⟩)) hHeld rfl (by kernel_rfl) (by kernel_rfl) (by kernel_rfl) (fun _ _ _ h => h) (Or.inl ⟨by rfl, ?_⟩) ?_
        · rintro w ⟨⟨q0, q1⟩, ⟨q2, q3, q4, q5⟩, ⟨q6, q7⟩, q8, q9⟩
          go_simp <;> (first | done | decide | omega | (intro _; omega) | (simp; omega))
        try simp only [Act.put, List.setIfInBounds_toArray, List.set_cons_zero, List.set_cons_succ]
        refine tkd 37 88 (.slice na cn nc) hHeld rfl (by kernel_rfl) (by kernel_rfl) (by kernel_rfl) (fun _ _ _ h => h) (Or.inl ⟨by rfl, ?_⟩) ?_
        · rintro w ⟨⟨q0, q1⟩, ⟨q2, q3, q4, q5⟩, ⟨q6, q7⟩, q8, q9⟩
          go_simp <;> (first | done | decide | omega | (intro _; omega) | (simp; omega))
        try simp only [Act.put, List.setIfInBounds_toArray, List.set_cons_zero, List.set_cons_succ]
        refine tkd 38 89 (.int .i64 (cn : Int)) hHeld rfl (by kernel_rfl) (by kernel_rfl) (by kernel_rfl) (fun _ _ _ h => h) (Or.inl ⟨by rfl, ?_⟩) ?_
        · rintro w ⟨⟨q0, q1⟩, ⟨q2, q3, q4, q5⟩, ⟨q6, q7⟩, q8, q9⟩
          go_simp <;> (first | done | decide | omega | (intro _; omega) | (simp; omega))
        try simp only [Act.put, List.setIfInBounds_toArray, List.set_cons_zero, List.set_cons_succ]
        refine tkd 39 90 (.pointer (some ⟨w2.heap.size, 1, none⟩)) hHeld rfl (by kernel_rfl) (by kernel_rfl) (by kernel_rfl) (fun _ _ _ h => h) (Or.inl ⟨by rfl, ?_⟩) ?_
        · rintro w ⟨⟨q0, q1⟩, ⟨q2, q3, q4, q5⟩, ⟨q6, q7⟩, q8, q9⟩
          go_simp <;> (first | done | decide | omega | (intro _; omega) | (simp; omega))
        try simp only [Act.put, List.setIfInBounds_toArray, List.set_cons_zero, List.set_cons_succ]
        refine tkd 40 91 (.int .i64 cnt) hHeld rfl (by kernel_rfl) (by kernel_rfl) (by kernel_rfl) (fun _ _ _ h => h) (Or.inl ⟨by rfl, ?_⟩) ?_
        · rintro w ⟨⟨q0, q1⟩, ⟨q2, q3, q4, q5⟩, ⟨q6, q7⟩, q8, q9⟩
          go_simp <;> (first | done | decide | omega | (intro _; omega) | (simp; omega))
        try simp only [Act.put, List.setIfInBounds_toArray, List.set_cons_zero, List.set_cons_succ]
        refine tkd 41 92 (.bool false) hHeld rfl (by kernel_rfl) (by kernel_rfl) (by kernel_rfl) (fun _ _ _ h => h) (Or.inl ⟨by rfl, ?_⟩) ?_
        · rintro w ⟨⟨q0, q1⟩, ⟨q2, q3, q4, q5⟩, ⟨q6, q7⟩, q8, q9⟩
          go_simp <;> (first | done | decide | omega | (intro _; omega) | (simp; omega))
        try simp only [Act.put, List.setIfInBounds_toArray, List.set_cons_zero, List.set_cons_succ]
        refine tkd 42 93 (.bool false) hHeld rfl (by kernel_rfl) (by kernel_rfl) (by kernel_rfl) (fun _ _ _ h => h) (Or.inl ⟨by rfl, ?_⟩) ?_
        · rintro w ⟨⟨q0, q1⟩, ⟨q2, q3, q4, q5⟩, ⟨q6, q7⟩, q8, q9⟩
          go_simp <;> (first | done | decide | omega | (intro _; omega) | (simp; omega))
        try simp only [Act.put, List.setIfInBounds_toArray, List.set_cons_zero, List.set_cons_succ]
        refine wpAnyH_done (by kernel_rfl) ?_ _
        have T10 := hide (T9.out.below BR.out)
        have R10 := hide (R9.out.below BR.out)
        have Z10 := hide (Z9.out.below BR.out)
        have N10 := hide (N9.out.below BR.out)
        have E10 := hide (E9.out.below BR.out)
        have S10 := hide (S9.out.below BR.out)
        have X10 := hide (X9.out.below BR.out)
        have Y10 := hide (Y0.out.below BR.out)
        have B10 := hide (below_next B9.out BR.out)
        clear KB HZR
        go_wp2_with fail
        refine (HPa.out _).mono ?_
        rintro e w11 ⟨pa, pc, rfl, -, hb11⟩
        have AR := hide (below_next hb11 (below_alloc w11 (.cells #[.int .i64 0, .slice pa 12 pc] 39)))
        have P11 := hide (Two.new w11 (.int .i64 0) (.slice pa 12 pc) 39)
        have N11 := hide (N10.out.below AR.out)
        have S11 := hide (S10.out.below AR.out)
        have X11 := hide (X10.out.below AR.out)
        have Y11 := hide (Y10.out.below AR.out)
        have B11 := hide (below_next B10.out AR.out)
        clear hb11 AR
        obtain ⟨⟨s0, s1, s2, -⟩, -⟩ := S11.out
        obtain ⟨⟨y0, y1, -, -⟩, -⟩ := Y11.out
        obtain ⟨p0, p1⟩ := P11.out
        have hv1 := conv_at (c := cv4) (n := N.length) N11.out rfl
        have hv2 := conv_at (c := xc) (n := N.length) X11.out rfl
        have hsum : ¬ (N.length : Int) + 12 ≤ 2000 := by have h1 := HNLl.out; have h2 := HNl.out; omega
        have hsd : decide ((N.length : Int) + 12 ≤ 2000) = false := decide_eq_false hsum
        have BE := hide (below_next BD.out B11.out)
        go_wp2_with (go_at_call 18; refine (HLi.out _).mono ?_; rintro e wM ⟨rfl, hwM⟩; subst hwM)
        go_ret
        exact ⟨rfl, BE.out⟩
    · obtain ⟨za, zc, ua, uc, M9, rfl, -, -, -, -, hb9⟩ := hres
      obtain ⟨ca, hca⟩ : ∃ c : Int, c = (((lines S).length + (lines NL).length : Nat) : Int) := ⟨_, rfl⟩
      rw [← hca]
      have HCA := hide (show ca = (cs : Int) + 1 by rw [hca, HCL.out]; omega)
      have hcab : 0 ≤ ca ∧ ca ≤ 2001 := by have := HCA.out; omega
      clear hca
      have AR := hide (below_next hb9 (below_alloc w9 (.cells #[.int .i64 0, .int .i64 ca, .slice za S.length zc, .slice ua NL.length uc] 29)))
      have Y0 := hide (Box4r.new w9 (.int .i64 0) (.int .i64 ca) (.slice za S.length zc) (.slice ua NL.length uc) 29)
      have T9 := hide (T8.out.below AR.out)
      have R9 := hide (R8.out.below AR.out)
      have Z9 := hide (Z8.out.below AR.out)
      have N9 := hide (N8.out.below AR.out)
      have E9 := hide (E8.out.below AR.out)
      have S9 := hide (S8.out.below AR.out)
      have X9 := hide (X8.out.below AR.out)
      have B9 := hide (below_next B8.out AR.out)
      have hz9 := hb9.size
      have hzz9 : w9.heap.size < (w9.alloc (.cells #[.int .i64 0, .int .i64 ca, .slice za S.length zc, .slice ua NL.length uc] 29)).heap.size := by simp
      clear hb9 AR T8 R8 Z8 N8 E8 S8 X8 B8
      obtain ⟨⟨r0, r1, r2, r3⟩, -⟩ := R9.out
      obtain ⟨t0, t1⟩ := T9.out
      obtain ⟨e0, e1⟩ := E9.out
      go_wp2_with fail
      clear r0 r1 r2 r3 t0 t1 e0 e1
      generalize w9.alloc (.cells #[.int .i64 0, .int .i64 ca, .slice za S.length zc, .slice ua NL.length uc] 29) = W9 at *
      cases av4 with
      | none =>
        have HZR := hide (fun (u : World) (hb : Below W9.heap.size W9 u) => show Reads .u8 u none Z from by
          rw [← HZT.out]
          intro hne
          obtain ⟨b, off, e, hb', hc⟩ := (N9.out.below hb) (fun e => hne (by simp [e]))
          refine ⟨b, off, e, hb', fun i hi => ?_⟩
          rw [List.length_take] at hi
          rw [hc i (by omega)]
          simp only [List.getD_eq_getElem?_getD, List.getElem?_take]
          rw [if_pos (by omega)])
        have KB : Hid (∀ u : World, Below W9.heap.size W9 u → (u.cell? ⟨w1.heap.size, 0, none⟩ = some (.slice sa S.length sc) ∧ u.cell? ⟨w1.heap.size, 1, none⟩ = some (.slice la L.length lc)) ∧ (u.cell? ⟨w2.heap.size, 0, none⟩ = some (.int .i64 0) ∧ u.cell? ⟨w2.heap.size, 1, none⟩ = some (.int .i64 cnt) ∧ u.cell? ⟨w2.heap.size, 2, none⟩ = some (.slice ja Z.length jc) ∧ u.cell? ⟨w2.heap.size, 3, none⟩ = some (.slice ka 0 kc)) ∧ (u.cell? ⟨w5.heap.size, 0, none⟩ = some (.int .i64 0) ∧ u.cell? ⟨w5.heap.size, 1, none⟩ = some (.slice na cn nc)) ∧ Sem.run Try.prog (convert 22 9 (.slice none Z.length cv4)) u = .ok (.string (strOfNums Z)) u ∧ Sem.run Try.prog (convert 22 9 (.slice ja Z.length jc)) u = .ok (.string (strOfNums Z)) u) := hide (fun u hb => ⟨T9.out.below hb, (R9.out.below hb).1, E9.out.below hb, conv_at (HZR.out u hb) rfl, conv_at (Z9.out.below hb) rfl⟩)
        refine wp_region_held_drew (S := fun u => (u.cell? ⟨w1.heap.size, 0, none⟩ = some (.slice sa S.length sc) ∧ u.cell? ⟨w1.heap.size, 1, none⟩ = some (.slice la L.length lc)) ∧ (u.cell? ⟨w2.heap.size, 0, none⟩ = some (.int .i64 0) ∧ u.cell? ⟨w2.heap.size, 1, none⟩ = some (.int .i64 cnt) ∧ u.cell? ⟨w2.heap.size, 2, none⟩ = some (.slice ja Z.length jc) ∧ u.cell? ⟨w2.heap.size, 3, none⟩ = some (.slice ka 0 kc)) ∧ (u.cell? ⟨w5.heap.size, 0, none⟩ = some (.int .i64 0) ∧ u.cell? ⟨w5.heap.size, 1, none⟩ = some (.slice na cn nc)) ∧ Sem.run Try.prog (convert 22 9 (.slice none Z.length cv4)) u = .ok (.string (strOfNums Z)) u ∧ Sem.run Try.prog (convert 22 9 (.slice ja Z.length jc)) u = .ok (.string (strOfNums Z)) u) (by kernel_rfl) (KB.out _ (Below.refl _ _).drew) (fun hHeld => ?_)
        change wpAnyH _ _ _ _ _ _ (Array.replicate _ false) _ (World.drew _)
        have BR := hide ((Below.refl W9.heap.size W9).drew)
        have hsD9 : W9.heap.size ≤ W9.drew.heap.size := Nat.le_refl _
        generalize W9.drew = D9 at *
        have hcnt0 := HCNT.out
        refine tkd 0 51 (.pointer (some ⟨w2.heap.size, 2, none⟩)) hHeld rfl (by kernel_rfl) (by kernel_rfl) (by kernel_rfl) (fun _ _ _ h => h) (Or.inl ⟨by rfl, ?_⟩) ?_
        · rintro w ⟨⟨q0, q1⟩, ⟨q2, q3, q4, q5⟩, ⟨q6, q7⟩, q8, q9⟩
          go_simp <;> (first | done | decide | omega | (intro _; omega) | (simp; omega))
        try simp only [Act.put, List.setIfInBounds_toArray, List.set_cons_zero, List.set_cons_succ]
        refine tkd 1 52 (.agg #[.slice ja Z.length jc, .slice ka 0 kc]) hHeld rfl (by kernel_rfl) (by kernel_rfl) (by kernel_rfl) (fun _ _ _ h => h) (Or.inl ⟨by rfl, ?_⟩) ?_
        · rintro w ⟨⟨q0, q1⟩, ⟨q2, q3, q4, q5⟩, ⟨q6, q7⟩, q8, q9⟩
          go_simp <;> (first | done | decide | omega | (intro _; omega) | (simp; omega))
        try simp only [Act.put, List.setIfInBounds_toArray, List.set_cons_zero, List.set_cons_succ]
        refine wpAnyH_ready (rs := [2]) (by kernel_rfl) (by simp) ?_
        refine AllReadyH.cons rfl (fun K hK => ?_) AllReadyH.nil
        go_simp
        refine (HLo'.out D9 ja ka jc kc (Z9.out.below BR.out) hjc).mono ?_
        rintro e wL ⟨rfl, hbL⟩
        have BRn := hide (below_next BR.out hbL)
        clear hbL BR
        have BR := BRn
        clear BRn
        go_wp2_with fail
        refine hK.out _ _ (KB.out _ BR.out) (fun hHeld => ?_)
        clear hK K
        try simp only [Act.put, List.setIfInBounds_toArray, List.set_cons_zero, List.set_cons_succ]
        refine tkd 3 54 (.bool false) hHeld rfl (by kernel_rfl) (by kernel_rfl) (by kernel_rfl) (fun _ _ _ h => h) (Or.inl ⟨by rfl, ?_⟩) ?_
        · rintro w ⟨⟨q0, q1⟩, ⟨q2, q3, q4, q5⟩, ⟨q6, q7⟩, q8, q9⟩
          go_simp <;> (first | done | decide | omega | (intro _; omega) | (simp; omega))
        try simp only [Act.put, List.setIfInBounds_toArray, List.set_cons_zero, List.set_cons_succ]
        refine tkd 4 55 (.bool false) hHeld rfl (by kernel_rfl) (by kernel_rfl) (by kernel_rfl) (fun _ _ _ h => h) (Or.inl ⟨by rfl, ?_⟩) ?_
        · rintro w ⟨⟨q0, q1⟩, ⟨q2, q3, q4, q5⟩, ⟨q6, q7⟩, q8, q9⟩
          go_simp <;> (first | done | decide | omega | (intro _; omega) | (simp; omega))
        try simp only [Act.put, List.setIfInBounds_toArray, List.set_cons_zero, List.set_cons_succ]
        refine tkd 5 56 (.pointer (some ⟨w2.heap.size, 2, none⟩)) hHeld rfl (by kernel_rfl) (by kernel_rfl) (by kernel_rfl) (fun _ _ _ h => h) (Or.inl ⟨by rfl, ?_⟩) ?_
        · rintro w ⟨⟨q0, q1⟩, ⟨q2, q3, q4, q5⟩, ⟨q6, q7⟩, q8, q9⟩
          go_simp <;> (first | done | decide | omega | (intro _; omega) | (simp; omega))
        try simp only [Act.put, List.setIfInBounds_toArray, List.set_cons_zero, List.set_cons_succ]
        refine tkd 6 57 (.pointer (some ⟨w2.heap.size, 3, none⟩)) hHeld rfl (by kernel_rfl) (by kernel_rfl) (by kernel_rfl) (fun _ _ _ h => h) (Or.inl ⟨by rfl, ?_⟩) ?_
        · rintro w ⟨⟨q0, q1⟩, ⟨q2, q3, q4, q5⟩, ⟨q6, q7⟩, q8, q9⟩
          go_simp <;> (first | done | decide | omega | (intro _; omega) | (simp; omega))
        try simp only [Act.put, List.setIfInBounds_toArray, List.set_cons_zero, List.set_cons_succ]
        refine tkd 7 58 (.slice ka 0 kc) hHeld rfl (by kernel_rfl) (by kernel_rfl) (by kernel_rfl) (fun _ _ _ h => h) (Or.inl ⟨by rfl, ?_⟩) ?_
        · rintro w ⟨⟨q0, q1⟩, ⟨q2, q3, q4, q5⟩, ⟨q6, q7⟩, q8, q9⟩
          go_simp <;> (first | done | decide | omega | (intro _; omega) | (simp; omega))
        try simp only [Act.put, List.setIfInBounds_toArray, List.set_cons_zero, List.set_cons_succ]
        refine tkd 8 59 (.int .i64 0) hHeld rfl (by kernel_rfl) (by kernel_rfl) (by kernel_rfl) (fun _ _ _ h => h) (Or.inl ⟨by rfl, ?_⟩) ?_
        · rintro w ⟨⟨q0, q1⟩, ⟨q2, q3, q4, q5⟩, ⟨q6, q7⟩, q8, q9⟩
          go_simp <;> (first | done | decide | omega | (intro _; omega) | (simp; omega))
        try simp only [Act.put, List.setIfInBounds_toArray, List.set_cons_zero, List.set_cons_succ]
        refine tkd 9 60 (.bool false) hHeld rfl (by kernel_rfl) (by kernel_rfl) (by kernel_rfl) (fun _ _ _ h => h) (Or.inl ⟨by rfl, ?_⟩) ?_
        · rintro w ⟨⟨q0, q1⟩, ⟨q2, q3, q4, q5⟩, ⟨q6, q7⟩, q8, q9⟩
          go_simp <;> (first | done | decide | omega | (intro _; omega) | (simp; omega))
        try simp only [Act.put, List.setIfInBounds_toArray, List.set_cons_zero, List.set_cons_succ]
        refine tkd 10 61 (.bool false) hHeld rfl (by kernel_rfl) (by kernel_rfl) (by kernel_rfl) (fun _ _ _ h => h) (Or.inl ⟨by rfl, ?_⟩) ?_
        · rintro w ⟨⟨q0, q1⟩, ⟨q2, q3, q4, q5⟩, ⟨q6, q7⟩, q8, q9⟩
          go_simp <;> (first | done | decide | omega | (intro _; omega) | (simp; omega))
        try simp only [Act.put, List.setIfInBounds_toArray, List.set_cons_zero, List.set_cons_succ]
        refine tkd 11 62 (.bool false) hHeld rfl (by kernel_rfl) (by kernel_rfl) (by kernel_rfl) (fun _ _ _ h => h) (Or.inl ⟨by rfl, ?_⟩) ?_
        · rintro w ⟨⟨q0, q1⟩, ⟨q2, q3, q4, q5⟩, ⟨q6, q7⟩, q8, q9⟩
          go_simp <;> (first | done | decide | omega | (intro _; omega) | (simp; omega))
        try simp only [Act.put, List.setIfInBounds_toArray, List.set_cons_zero, List.set_cons_succ]
        refine tkd 12 63 (.int .i64 (Z.length : Int)) hHeld rfl (by kernel_rfl) (by kernel_rfl) (by kernel_rfl) (fun _ _ _ h => h) (Or.inl ⟨by rfl, ?_⟩) ?_
        · rintro w ⟨⟨q0, q1⟩, ⟨q2, q3, q4, q5⟩, ⟨q6, q7⟩, q8, q9⟩
          go_simp <;> (first | done | decide | omega | (intro _; omega) | (simp; omega))
        try simp only [Act.put, List.setIfInBounds_toArray, List.set_cons_zero, List.set_cons_succ]
        refine tkd 13 64 (.pointer (some ⟨w1.heap.size, 0, none⟩)) hHeld rfl (by kernel_rfl) (by kernel_rfl) (by kernel_rfl) (fun _ _ _ h => h) (Or.inl ⟨by rfl, ?_⟩) ?_
        · rintro w ⟨⟨q0, q1⟩, ⟨q2, q3, q4, q5⟩, ⟨q6, q7⟩, q8, q9⟩
          go_simp <;> (first | done | decide | omega | (intro _; omega) | (simp; omega))
        try simp only [Act.put, List.setIfInBounds_toArray, List.set_cons_zero, List.set_cons_succ]
        refine tkd 14 65 (.slice sa S.length sc) hHeld rfl (by kernel_rfl) (by kernel_rfl) (by kernel_rfl) (fun _ _ _ h => h) (Or.inl ⟨by rfl, ?_⟩) ?_
        · rintro w ⟨⟨q0, q1⟩, ⟨q2, q3, q4, q5⟩, ⟨q6, q7⟩, q8, q9⟩
          go_simp <;> (first | done | decide | omega | (intro _; omega) | (simp; omega))
        try simp only [Act.put, List.setIfInBounds_toArray, List.set_cons_zero, List.set_cons_succ]
        refine tkd 15 66 (.int .i64 (S.length : Int)) hHeld rfl (by kernel_rfl) (by kernel_rfl) (by kernel_rfl) (fun _ _ _ h => h) (Or.inl ⟨by rfl, ?_⟩) ?_
        · rintro w ⟨⟨q0, q1⟩, ⟨q2, q3, q4, q5⟩, ⟨q6, q7⟩, q8, q9⟩
          go_simp <;> (first | done | decide | omega | (intro _; omega) | (simp; omega))
        try simp only [Act.put, List.setIfInBounds_toArray, List.set_cons_zero, List.set_cons_succ]
        refine tkd 16 67 (.bool false) hHeld rfl (by kernel_rfl) (by kernel_rfl) (by kernel_rfl) (fun _ _ _ h => h) (Or.inl ⟨by rfl, ?_⟩) ?_
        · rintro w ⟨⟨q0, q1⟩, ⟨q2, q3, q4, q5⟩, ⟨q6, q7⟩, q8, q9⟩
          go_simp <;> (first | done | decide | omega | (intro _; omega) | (simp; omega))
        try simp only [Act.put, List.setIfInBounds_toArray, List.set_cons_zero, List.set_cons_succ]
        refine tkd 17 68 (.bool false) hHeld rfl (by kernel_rfl) (by kernel_rfl) (by kernel_rfl) (fun _ _ _ h => h) (Or.inl ⟨by rfl, ?_⟩) ?_
        · rintro w ⟨⟨q0, q1⟩, ⟨q2, q3, q4, q5⟩, ⟨q6, q7⟩, q8, q9⟩
          go_simp <;> (first | done | decide | omega | (intro _; omega) | (simp; omega))
        try simp only [Act.put, List.setIfInBounds_toArray, List.set_cons_zero, List.set_cons_succ]
        refine tkd 18 69 (.bool false) hHeld rfl (by kernel_rfl) (by kernel_rfl) (by kernel_rfl) (fun _ _ _ h => h) (Or.inl ⟨by rfl, ?_⟩) ?_
        · rintro w ⟨⟨q0, q1⟩, ⟨q2, q3, q4, q5⟩, ⟨q6, q7⟩, q8, q9⟩
          go_simp <;> (first | done | decide | omega | (intro _; omega) | (simp; omega))
        try simp only [Act.put, List.setIfInBounds_toArray, List.set_cons_zero, List.set_cons_succ]
        refine tkd 19 70 (.int .i64 (Z.length : Int)) hHeld rfl (by kernel_rfl) (by kernel_rfl) (by kernel_rfl) (fun _ _ _ h => h) (Or.inl ⟨by rfl, ?_⟩) ?_
        · rintro w ⟨⟨q0, q1⟩, ⟨q2, q3, q4, q5⟩, ⟨q6, q7⟩, q8, q9⟩
          go_simp <;> (first | done | decide | omega | (intro _; omega) | (simp; omega))
        try simp only [Act.put, List.setIfInBounds_toArray, List.set_cons_zero, List.set_cons_succ]
        refine tkd 20 71 (.slice none N.length cv4) hHeld rfl (by kernel_rfl) (by kernel_rfl) (by kernel_rfl) (fun _ _ _ h => h) (Or.inl ⟨by rfl, ?_⟩) ?_
        · rintro w ⟨⟨q0, q1⟩, ⟨q2, q3, q4, q5⟩, ⟨q6, q7⟩, q8, q9⟩
          go_simp <;> (first | done | decide | omega | (intro _; omega) | (simp; omega))
        try simp only [Act.put, List.setIfInBounds_toArray, List.set_cons_zero, List.set_cons_succ]
        refine tkd 21 72 (.int .i64 (N.length : Int)) hHeld rfl (by kernel_rfl) (by kernel_rfl) (by kernel_rfl) (fun _ _ _ h => h) (Or.inl ⟨by rfl, ?_⟩) ?_
        · rintro w ⟨⟨q0, q1⟩, ⟨q2, q3, q4, q5⟩, ⟨q6, q7⟩, q8, q9⟩
          go_simp <;> (first | done | decide | omega | (intro _; omega) | (simp; omega))
        try simp only [Act.put, List.setIfInBounds_toArray, List.set_cons_zero, List.set_cons_succ]
        refine tkd 22 73 (.bool false) hHeld rfl (by kernel_rfl) (by kernel_rfl) (by kernel_rfl) (fun _ _ _ h => h) (Or.inl ⟨by rfl, ?_⟩) ?_
        · rintro w ⟨⟨q0, q1⟩, ⟨q2, q3, q4, q5⟩, ⟨q6, q7⟩, q8, q9⟩
          go_simp <;> (first | done | decide | omega | (intro _; omega) | (simp; omega))
        try simp only [Act.put, List.setIfInBounds_toArray, List.set_cons_zero, List.set_cons_succ]
        refine tkd 23 74 (.bool false) hHeld rfl (by kernel_rfl) (by kernel_rfl) (by kernel_rfl) (fun _ _ _ h => h) (Or.inl ⟨by rfl, ?_⟩) ?_
        · rintro w ⟨⟨q0, q1⟩, ⟨q2, q3, q4, q5⟩, ⟨q6, q7⟩, q8, q9⟩
          go_simp <;> (first | done | decide | omega | (intro _; omega) | (simp; omega))
        try simp only [Act.put, List.setIfInBounds_toArray, List.set_cons_zero, List.set_cons_succ]
        refine tkd 24 75 (.bool false) hHeld rfl (by kernel_rfl) (by kernel_rfl) (by kernel_rfl) (fun _ _ _ h => h) (Or.inl ⟨by rfl, ?_⟩) ?_
        · rintro w ⟨⟨q0, q1⟩, ⟨q2, q3, q4, q5⟩, ⟨q6, q7⟩, q8, q9⟩
          go_simp <;> (first | done | decide | omega | (intro _; omega) | (simp; omega))
        try simp only [Act.put, List.setIfInBounds_toArray, List.set_cons_zero, List.set_cons_succ]
        refine tkd 25 76 (.slice none N.length cv4) hHeld rfl (by kernel_rfl) (by kernel_rfl) (by kernel_rfl) (fun _ _ _ h => h) (Or.inl ⟨by rfl, ?_⟩) ?_
        · rintro w ⟨⟨q0, q1⟩, ⟨q2, q3, q4, q5⟩, ⟨q6, q7⟩, q8, q9⟩
          go_simp <;> (first | done | decide | omega | (intro _; omega) | (simp; omega))
        try simp only [Act.put, List.setIfInBounds_toArray, List.set_cons_zero, List.set_cons_succ]
        refine tkd 26 77 (.int .i64 (Z.length : Int)) hHeld rfl (by kernel_rfl) (by kernel_rfl) (by kernel_rfl) (fun _ _ _ h => h) (Or.inl ⟨by rfl, ?_⟩) ?_
        · rintro w ⟨⟨q0, q1⟩, ⟨q2, q3, q4, q5⟩, ⟨q6, q7⟩, q8, q9⟩
          go_simp <;> (first | done | decide | omega | (intro _; omega) | (simp; omega))
        try simp only [Act.put, List.setIfInBounds_toArray, List.set_cons_zero, List.set_cons_succ]
        refine tkd 27 78 (.slice none Z.length cv4) hHeld rfl (by kernel_rfl) (by kernel_rfl) (by kernel_rfl) (fun _ _ _ h => h) (Or.inl ⟨by rfl, ?_⟩) ?_
        · rintro w ⟨⟨q0, q1⟩, ⟨q2, q3, q4, q5⟩, ⟨q6, q7⟩, q8, q9⟩
          go_simp <;> (first | done | decide | omega | (intro _; omega) | (simp; omega))
        try simp only [Act.put, List.setIfInBounds_toArray, List.set_cons_zero, List.set_cons_succ]
        refine tkd 28 79 (.string (strOfNums Z)) hHeld rfl (by kernel_rfl) (by kernel_rfl) (by kernel_rfl) (fun _ _ _ h => h) (Or.inl ⟨by rfl, ?_⟩) ?_
        · rintro w ⟨⟨q0, q1⟩, ⟨q2, q3, q4, q5⟩, ⟨q6, q7⟩, q8, q9⟩
          go_simp <;> (first | done | decide | omega | (intro _; omega) | (simp; omega))
        try simp only [Act.put, List.setIfInBounds_toArray, List.set_cons_zero, List.set_cons_succ]
        refine tkd 29 80 (.pointer (some ⟨w2.heap.size, 2, none⟩)) hHeld rfl (by kernel_rfl) (by kernel_rfl) (by kernel_rfl) (fun _ _ _ h => h) (Or.inl ⟨by rfl, ?_⟩) ?_
        · rintro w ⟨⟨q0, q1⟩, ⟨q2, q3, q4, q5⟩, ⟨q6, q7⟩, q8, q9⟩
          go_simp <;> (first | done | decide | omega | (intro _; omega) | (simp; omega))
        try simp only [Act.put, List.setIfInBounds_toArray, List.set_cons_zero, List.set_cons_succ]
        refine tkd 30 81 (.pointer (some ⟨w2.heap.size, 2, none⟩)) hHeld rfl (by kernel_rfl) (by kernel_rfl) (by kernel_rfl) (fun _ _ _ h => h) (Or.inl ⟨by rfl, ?_⟩) ?_
        · rintro w ⟨⟨q0, q1⟩, ⟨q2, q3, q4, q5⟩, ⟨q6, q7⟩, q8, q9⟩
          go_simp <;> (first | done | decide | omega | (intro _; omega) | (simp; omega))
        try simp only [Act.put, List.setIfInBounds_toArray, List.set_cons_zero, List.set_cons_succ]
        refine tkd 31 82 (.slice ja Z.length jc) hHeld rfl (by kernel_rfl) (by kernel_rfl) (by kernel_rfl) (fun _ _ _ h => h) (Or.inl ⟨by rfl, ?_⟩) ?_
        · rintro w ⟨⟨q0, q1⟩, ⟨q2, q3, q4, q5⟩, ⟨q6, q7⟩, q8, q9⟩
          go_simp <;> (first | done | decide | omega | (intro _; omega) | (simp; omega))
        try simp only [Act.put, List.setIfInBounds_toArray, List.set_cons_zero, List.set_cons_succ]
        refine tkd 32 83 (.string (strOfNums Z)) hHeld rfl (by kernel_rfl) (by kernel_rfl) (by kernel_rfl) (fun _ _ _ h => h) (Or.inl ⟨by rfl, ?_⟩) ?_
        · rintro w ⟨⟨q0, q1⟩, ⟨q2, q3, q4, q5⟩, ⟨q6, q7⟩, q8, q9⟩
          go_simp <;> (first | done | decide | omega | (intro _; omega) | (simp; omega))
        try simp only [Act.put, List.setIfInBounds_toArray, List.set_cons_zero, List.set_cons_succ]
        refine tkd 33 84 (.bool false) hHeld rfl (by kernel_rfl) (by kernel_rfl) (by kernel_rfl) (fun _ _ _ h => h) (Or.inl ⟨by rfl, ?_⟩) ?_
        · rintro w ⟨⟨q0, q1⟩, ⟨q2, q3, q4, q5⟩, ⟨q6, q7⟩, q8, q9⟩
          go_simp <;> (first | done | decide | omega | (intro _; omega) | (simp; omega))
        try simp only [Act.put, List.setIfInBounds_toArray, List.set_cons_zero, List.set_cons_succ]
        refine tkd 34 85 (.bool false) hHeld rfl (by kernel_rfl) (by kernel_rfl) (by kernel_rfl) (fun _ _ _ h => h) (Or.inl ⟨by rfl, ?_⟩) ?_
        · rintro w ⟨⟨q0, q1⟩, ⟨q2, q3, q4, q5⟩, ⟨q6, q7⟩, q8, q9⟩
          go_simp <;> (first | done | decide | omega | (intro _; omega) | (simp; omega))
        try simp only [Act.put, List.setIfInBounds_toArray, List.set_cons_zero, List.set_cons_succ]
        refine tkd 35 86 (.bool false) hHeld rfl (by kernel_rfl) (by kernel_rfl) (by kernel_rfl) (fun _ _ _ h => h) (Or.inl ⟨by rfl, ?_⟩) ?_
        · rintro w ⟨⟨q0, q1⟩, ⟨q2, q3, q4, q5⟩, ⟨q6, q7⟩, q8, q9⟩
          go_simp <;> (first | done | decide | omega | (intro _; omega) | (simp; omega))
        try simp only [Act.put, List.setIfInBounds_toArray, List.set_cons_zero, List.set_cons_succ]
        refine tkd 36 87 (.pointer (some ⟨w5.heap.size, 1, none⟩)) hHeld rfl (by kernel_rfl) (by kernel_rfl) (by kernel_rfl) (fun _ _ _ h => h) (Or.inl ⟨by rfl, ?_⟩) ?_
        · rintro w ⟨⟨q0, q1⟩, ⟨q2, q3, q4, q5⟩, ⟨q6, q7⟩, q8, q9⟩
          go_simp <;> (first | done | decide | omega | (intro _; omega) | (simp; omega))
        try simp only [Act.put, List.setIfInBounds_toArray, List.set_cons_zero, List.set_cons_succ]
        refine tkd 37 88 (.slice na cn nc) hHeld rfl (by kernel_rfl) (by kernel_rfl) (by kernel_rfl) (fun _ _ _ h => h) (Or.inl ⟨by rfl, ?_⟩) ?_
        · rintro w ⟨⟨q0, q1⟩, ⟨q2, q3, q4, q5⟩, ⟨q6, q7⟩, q8, q9⟩
          go_simp <;> (first | done | decide | omega | (intro _; omega) | (simp; omega))
        try simp only [Act.put, List.setIfInBounds_toArray, List.set_cons_zero, List.set_cons_succ]
        refine tkd 38 89 (.int .i64 (cn : Int)) hHeld rfl (by kernel_rfl) (by kernel_rfl) (by kernel_rfl) (fun _ _ _ h => h) (Or.inl ⟨by rfl, ?_⟩) ?_
        · rintro w ⟨⟨q0, q1⟩, ⟨q2, q3, q4, q5⟩, ⟨q6, q7⟩, q8, q9⟩
          go_simp <;> (first | done | decide | omega | (intro _; omega) | (simp; omega))
        try simp only [Act.put, List.setIfInBounds_toArray, List.set_cons_zero, List.set_cons_succ]
        refine tkd 39 90 (.pointer (some ⟨w2.heap.size, 1, none⟩)) hHeld rfl (by kernel_rfl) (by kernel_rfl) (by kernel_rfl) (fun _ _ _ h => h) (Or.inl ⟨by rfl, ?_⟩) ?_
        · rintro w ⟨⟨q0, q1⟩, ⟨q2, q3, q4, q5⟩, ⟨q6, q7⟩, q8, q9⟩
          go_simp <;> (first | done | decide | omega | (intro _; omega) | (simp; omega))
        try simp only [Act.put, List.setIfInBounds_toArray, List.set_cons_zero, List.set_cons_succ]
        refine tkd 40 91 (.int .i64 cnt) hHeld rfl (by kernel_rfl) (by kernel_rfl) (by kernel_rfl) (fun _ _ _ h => h) (Or.inl ⟨by rfl, ?_⟩) ?_
        · rintro w ⟨⟨q0, q1⟩, ⟨q2, q3, q4, q5⟩, ⟨q6, q7⟩, q8, q9⟩
          go_simp <;> (first | done | decide | omega | (intro _; omega) | (simp; omega))
        try simp only [Act.put, List.setIfInBounds_toArray, List.set_cons_zero, List.set_cons_succ]
        refine tkd 41 92 (.bool false) hHeld rfl (by kernel_rfl) (by kernel_rfl) (by kernel_rfl) (fun _ _ _ h => h) (Or.inl ⟨by rfl, ?_⟩) ?_
        · rintro w ⟨⟨q0, q1⟩, ⟨q2, q3, q4, q5⟩, ⟨q6, q7⟩, q8, q9⟩
          go_simp <;> (first | done | decide | omega | (intro _; omega) | (simp; omega))
        try simp only [Act.put, List.setIfInBounds_toArray, List.set_cons_zero, List.set_cons_succ]
        refine tkd 42 93 (.bool false) hHeld rfl (by kernel_rfl) (by kernel_rfl) (by kernel_rfl) (fun _ _ _ h => h) (Or.inl ⟨by rfl, ?_⟩) ?_
        · rintro w ⟨⟨q0, q1⟩, ⟨q2, q3, q4, q5⟩, ⟨q6, q7⟩, q8, q9⟩
          go_simp <;> (first | done | decide | omega | (intro _; omega) | (simp; omega))
        try simp only [Act.put, List.setIfInBounds_toArray, List.set_cons_zero, List.set_cons_succ]
        refine wpAnyH_done (by kernel_rfl) ?_ _
        have T10 := hide (T9.out.below BR.out)
        have R10 := hide (R9.out.below BR.out)
        have Z10 := hide (Z9.out.below BR.out)
        have N10 := hide (N9.out.below BR.out)
        have E10 := hide (E9.out.below BR.out)
        have S10 := hide (S9.out.below BR.out)
        have X10 := hide (X9.out.below BR.out)
        have Y10 := hide (Y0.out.below BR.out)
        have B10 := hide (below_next B9.out BR.out)
        clear KB HZR
        go_wp2_with fail
        refine (HPa.out _).mono ?_
        rintro e w11 ⟨pa, pc, rfl, -, hb11⟩
        have AR := hide (below_next hb11 (below_alloc w11 (.cells #[.int .i64 0, .slice pa 12 pc] 39)))
        have P11 := hide (Two.new w11 (.int .i64 0) (.slice pa 12 pc) 39)
        have N11 := hide (N10.out.below AR.out)
        have S11 := hide (S10.out.below AR.out)
        have X11 := hide (X10.out.below AR.out)
        have Y11 := hide (Y10.out.below AR.out)
        have B11 := hide (below_next B10.out AR.out)
        clear hb11 AR
        obtain ⟨⟨s0, s1, s2, -⟩, -⟩ := S11.out
        obtain ⟨⟨y0, y1, -, -⟩, -⟩ := Y11.out
        obtain ⟨p0, p1⟩ := P11.out
        have hv1 := conv_at (c := cv4) (n := N.length) N11.out rfl
        have hv2 := conv_at (c := xc) (n := N.length) X11.out rfl
        have hca0 := HCA.out
        have hsum : (N.length : Int) + 12 ≤ 2000 := by have h1 := HNLl.out; have h2 := HNl.out; omega
        have hsd : decide ((N.length : Int) + 12 ≤ 2000) = true := decide_eq_true hsum
        have BE := hide (below_next BD.out B11.out)
        go_wp2_with (go_at_call 18; refine (HLi.out _).mono ?_; rintro e wM ⟨rfl, hwM⟩; subst hwM)
        go_ret
        exact ⟨rfl, BE.out⟩
      | some g4 =>
        have HZR := hide (fun (u : World) (hb : Below W9.heap.size W9 u) => show Reads .u8 u (some g4) Z from by
          rw [← HZT.out]
          intro hne
          obtain ⟨b, off, e, hb', hc⟩ := (N9.out.below hb) (fun e => hne (by simp [e]))
          refine ⟨b, off, e, hb', fun i hi => ?_⟩
          rw [List.length_take] at hi
          rw [hc i (by omega)]
          simp only [List.getD_eq_getElem?_getD, List.getElem?_take]
          rw [if_pos (by omega)])
        have KB : Hid (∀ u : World, Below W9.heap.size W9 u → (u.cell? ⟨w1.heap.size, 0, none⟩ = some (.slice sa S.length sc) ∧ u.cell? ⟨w1.heap.size, 1, none⟩ = some (.slice la L.length lc)) ∧ (u.cell? ⟨w2.heap.size, 0, none⟩ = some (.int .i64 0) ∧ u.cell? ⟨w2.heap.size, 1, none⟩ = some (.int .i64 cnt) ∧ u.cell? ⟨w2.heap.size, 2, none⟩ = some (.slice ja Z.length jc) ∧ u.cell? ⟨w2.heap.size, 3, none⟩ = some (.slice ka 0 kc)) ∧ (u.cell? ⟨w5.heap.size, 0, none⟩ = some (.int .i64 0) ∧ u.cell? ⟨w5.heap.size, 1, none⟩ = some (.slice na cn nc)) ∧ Sem.run Try.prog (convert 22 9 (.slice (some g4) Z.length cv4)) u = .ok (.string (strOfNums Z)) u ∧ Sem.run Try.prog (convert 22 9 (.slice ja Z.length jc)) u = .ok (.string (strOfNums Z)) u) := hide (fun u hb => ⟨T9.out.below hb, (R9.out.below hb).1, E9.out.below hb, conv_at (HZR.out u hb) rfl, conv_at (Z9.out.below hb) rfl⟩)
        refine wp_region_held_drew (S := fun u => (u.cell? ⟨w1.heap.size, 0, none⟩ = some (.slice sa S.length sc) ∧ u.cell? ⟨w1.heap.size, 1, none⟩ = some (.slice la L.length lc)) ∧ (u.cell? ⟨w2.heap.size, 0, none⟩ = some (.int .i64 0) ∧ u.cell? ⟨w2.heap.size, 1, none⟩ = some (.int .i64 cnt) ∧ u.cell? ⟨w2.heap.size, 2, none⟩ = some (.slice ja Z.length jc) ∧ u.cell? ⟨w2.heap.size, 3, none⟩ = some (.slice ka 0 kc)) ∧ (u.cell? ⟨w5.heap.size, 0, none⟩ = some (.int .i64 0) ∧ u.cell? ⟨w5.heap.size, 1, none⟩ = some (.slice na cn nc)) ∧ Sem.run Try.prog (convert 22 9 (.slice (some g4) Z.length cv4)) u = .ok (.string (strOfNums Z)) u ∧ Sem.run Try.prog (convert 22 9 (.slice ja Z.length jc)) u = .ok (.string (strOfNums Z)) u) (by kernel_rfl) (KB.out _ (Below.refl _ _).drew) (fun hHeld => ?_)
        change wpAnyH _ _ _ _ _ _ (Array.replicate _ false) _ (World.drew _)
        have BR := hide ((Below.refl W9.heap.size W9).drew)
        have hsD9 : W9.heap.size ≤ W9.drew.heap.size := Nat.le_refl _
        generalize W9.drew = D9 at *
        have hcnt0 := HCNT.out
        refine tkd 0 51 (.pointer (some ⟨w2.heap.size, 2, none⟩)) hHeld rfl (by kernel_rfl) (by kernel_rfl) (by kernel_rfl) (fun _ _ _ h => h) (Or.inl ⟨by rfl, ?_⟩) ?_
        · rintro w ⟨⟨q0, q1⟩, ⟨q2, q3, q4, q5⟩, ⟨q6, q7⟩, q8, q9⟩
          go_simp <;> (first | done | decide | omega | (intro _; omega) | (simp; omega))
        try simp only [Act.put, List.setIfInBounds_toArray, List.set_cons_zero, List.set_cons_succ]
        refine tkd 1 52 (.agg #[.slice ja Z.length jc, .slice ka 0 kc]) hHeld rfl (by kernel_rfl) (by kernel_rfl) (by kernel_rfl) (fun _ _ _ h => h) (Or.inl ⟨by rfl, ?_⟩) ?_
        · rintro w ⟨⟨q0, q1⟩, ⟨q2, q3, q4, q5⟩, ⟨q6, q7⟩, q8, q9⟩
          go_simp <;> (first | done | decide | omega | (intro _; omega) | (simp; omega))
        try simp only [Act.put, List.setIfInBounds_toArray, List.set_cons_zero, List.set_cons_succ]
        refine wpAnyH_ready (rs := [2]) (by kernel_rfl) (by simp) ?_
        refine AllReadyH.cons rfl (fun K hK => ?_) AllReadyH.nil
        go_simp
        refine (HLo'.out D9 ja ka jc kc (Z9.out.below BR.out) hjc).mono ?_
        rintro e wL ⟨rfl, hbL⟩
        have BRn := hide (below_next BR.out hbL)
        clear hbL BR
        have BR := BRn
        clear BRn
        go_wp2_with fail
        refine hK.out _ _ (KB.out _ BR.out) (fun hHeld => ?_)
        clear hK K
        try simp only [Act.put, List.setIfInBounds_toArray, List.set_cons_zero, List.set_cons_succ]
        refine tkd 3 54 (.bool false) hHeld rfl (by kernel_rfl) (by kernel_rfl) (by kernel_rfl) (fun _ _ _ h => h) (Or.inl ⟨by rfl, ?_⟩) ?_
        · rintro w ⟨⟨q0, q1⟩, ⟨q2, q3, q4, q5⟩, ⟨q6, q7⟩, q8, q9⟩
          go_simp <;> (first | done | decide | omega | (intro _; omega) | (simp; omega))
        try simp only [Act.put, List.setIfInBounds_toArray, List.set_cons_zero, List.set_cons_succ]
        refine tkd 4 55 (.bool false) hHeld rfl (by kernel_rfl) (by kernel_rfl) (by kernel_rfl) (fun _ _ _ h => h) (Or.inl ⟨by rfl, ?_⟩) ?_
        · rintro w ⟨⟨q0, q1⟩, ⟨q2, q3, q4, q5⟩, ⟨q6, q7⟩, q8, q9⟩
          go_simp <;> (first | done | decide | omega | (intro _; omega) | (simp; omega))
        try simp only [Act.put, List.setIfInBounds_toArray, List.set_cons_zero, List.set_cons_succ]
        refine tkd 5 56 (.pointer (some ⟨w2.heap.size, 2, none⟩)) hHeld rfl (by kernel_rfl) (by kernel_rfl) (by kernel_rfl) (fun _ _ _ h => h) (Or.inl ⟨by rfl, ?_⟩) ?_
        · rintro w ⟨⟨q0, q1⟩, ⟨q2, q3, q4, q5⟩, ⟨q6, q7⟩, q8, q9⟩
          go_simp <;> (first | done | decide | omega | (intro _; omega) | (simp; omega))
        try simp only [Act.put, List.setIfInBounds_toArray, List.set_cons_zero, List.set_cons_succ]
        refine tkd 6 57 (.pointer (some ⟨w2.heap.size, 3, none⟩)) hHeld rfl (by kernel_rfl) (by kernel_rfl) (by kernel_rfl) (fun _ _ _ h => h) (Or.inl ⟨by rfl, ?_⟩) ?_
        · rintro w ⟨⟨q0, q1⟩, ⟨q2, q3, q4, q5⟩, ⟨q6, q7⟩, q8, q9⟩
          go_simp <;> (first | done | decide | omega | (intro _; omega) | (simp; omega))
        try simp only [Act.put, List.setIfInBounds_toArray, List.set_cons_zero, List.set_cons_succ]
        refine tkd 7 58 (.slice ka 0 kc) hHeld rfl (by kernel_rfl) (by kernel_rfl) (by kernel_rfl) (fun _ _ _ h => h) (Or.inl ⟨by rfl, ?_⟩) ?_
        · rintro w ⟨⟨q0, q1⟩, ⟨q2, q3, q4, q5⟩, ⟨q6, q7⟩, q8, q9⟩
          go_simp <;> (first | done | decide | omega | (intro _; omega) | (simp; omega))
        try simp only [Act.put, List.setIfInBounds_toArray, List.set_cons_zero, List.set_cons_succ]
        refine tkd 8 59 (.int .i64 0) hHeld rfl (by kernel_rfl) (by kernel_rfl) (by kernel_rfl) (fun _ _ _ h => h) (Or.inl ⟨by rfl, ?_⟩) ?_
        · rintro w ⟨⟨q0, q1⟩, ⟨q2, q3, q4, q5⟩, ⟨q6, q7⟩, q8, q9⟩
          go_simp <;> (first | done | decide | omega | (intro _; omega) | (simp; omega))
        try simp only [Act.put, List.setIfInBounds_toArray, List.set_cons_zero, List.set_cons_succ]
        refine tkd 9 60 (.bool false) hHeld rfl (by kernel_rfl) (by kernel_rfl) (by kernel_rfl) (fun _ _ _ h => h) (Or.inl ⟨by rfl, ?_⟩) ?_
        · rintro w ⟨⟨q0, q1⟩, ⟨q2, q3, q4, q5⟩, ⟨q6, q7⟩, q8, q9⟩
          go_simp <;> (first | done | decide | omega | (intro _; omega) | (simp; omega))
        try simp only [Act.put, List.setIfInBounds_toArray, List.set_cons_zero, List.set_cons_succ]
        refine tkd 10 61 (.bool false) hHeld rfl (by kernel_rfl) (by kernel_rfl) (by kernel_rfl) (fun _ _ _ h => h) (Or.inl ⟨by rfl, ?_⟩) ?_
        · rintro w ⟨⟨q0, q1⟩, ⟨q2, q3, q4, q5⟩, ⟨q6, q7⟩, q8, q9⟩
          go_simp <;> (first | done | decide | omega | (intro _; omega) | (simp; omega))
        try simp only [Act.put, List.setIfInBounds_toArray, List.set_cons_zero, List.set_cons_succ]
        refine tkd 11 62 (.bool false) hHeld rfl (by kernel_rfl) (by kernel_rfl) (by kernel_rfl) (fun _ _ _ h => h) (Or.inl ⟨by rfl, ?_⟩) ?_
        · rintro w ⟨⟨q0, q1⟩, ⟨q2, q3, q4, q5⟩, ⟨q6, q7⟩, q8, q9⟩
          go_simp <;> (first | done | decide | omega | (intro _; omega) | (simp; omega))
        try simp only [Act.put, List.setIfInBounds_toArray, List.set_cons_zero, List.set_cons_succ]
        refine tkd 12 63 (.int .i64 (Z.length : Int)) hHeld rfl (by kernel_rfl) (by kernel_rfl) (by kernel_rfl) (fun _ _ _ h => h) (Or.inl ⟨by rfl, ?_⟩) ?_
        · rintro w ⟨⟨q0, q1⟩, ⟨q2, q3, q4, q5⟩, ⟨q6, q7⟩, q8, q9⟩
          go_simp <;> (first | done | decide | omega | (intro _; omega) | (simp; omega))
        try simp only [Act.put, List.setIfInBounds_toArray, List.set_cons_zero, List.set_cons_succ]
        refine tkd 13 64 (.pointer (some ⟨w1.heap.size, 0, none⟩)) hHeld rfl (by kernel_rfl) (by kernel_rfl) (by kernel_rfl) (fun _ _ _ h => h) (Or.inl ⟨by rfl, ?_⟩) ?_
        · rintro w ⟨⟨q0, q1⟩, ⟨q2, q3, q4, q5⟩, ⟨q6, q7⟩, q8, q9⟩
          go_simp <;> (first | done | decide | omega | (intro _; omega) | (simp; omega))
        try simp only [Act.put, List.setIfInBounds_toArray, List.set_cons_zero, List.set_cons_succ]
        refine tkd 14 65 (.slice sa S.length sc) hHeld rfl (by kernel_rfl) (by kernel_rfl) (by kernel_rfl) (fun _ _ _ h => h) (Or.inl ⟨by rfl, ?_⟩) ?_
        · rintro w ⟨⟨q0, q1⟩, ⟨q2, q3, q4, q5⟩, ⟨q6, q7⟩, q8, q9⟩
          go_simp <;> (first | done | decide | omega | (intro _; omega) | (simp; omega))
        try simp only [Act.put, List.setIfInBounds_toArray, List.set_cons_zero, List.set_cons_succ]
        refine tkd 15 66 (.int .i64 (S.length : Int)) hHeld rfl (by kernel_rfl) (by kernel_rfl) (by kernel_rfl) (fun _ _ _ h => h) (Or.inl ⟨by rfl, ?_⟩) ?_
        · rintro w ⟨⟨q0, q1⟩, ⟨q2, q3, q4, q5⟩, ⟨q6, q7⟩, q8, q9⟩
          go_simp <;> (first | done | decide | omega | (intro _; omega) | (simp; omega))
        try simp only [Act.put, List.setIfInBounds_toArray, List.set_cons_zero, List.set_cons_succ]
        refine tkd 16 67 (.bool false) hHeld rfl (by kernel_rfl) (by kernel_rfl) (by kernel_rfl) (fun _ _ _ h => h) (Or.inl ⟨by rfl, ?_⟩) ?_
        · rintro w ⟨⟨q0, q1⟩, ⟨q2, q3, q4, q5⟩, ⟨q6, q7⟩, q8, q9⟩
          go_simp <;> (first | done | decide | omega | (intro _; omega) | (simp; omega))
        try simp only [Act.put, List.setIfInBounds_toArray, List.set_cons_zero, List.set_cons_succ]
        refine tkd 17 68 (.bool false) hHeld rfl (by kernel_rfl) (by kernel_rfl) (by kernel_rfl) (fun _ _ _ h => h) (Or.inl ⟨by rfl, ?_⟩) ?_
        · rintro w ⟨⟨q0, q1⟩, ⟨q2, q3, q4, q5⟩, ⟨q6, q7⟩, q8, q9⟩
          go_simp <;> (first | done | decide | omega | (intro _; omega) | (simp; omega))
        try simp only [Act.put, List.setIfInBounds_toArray, List.set_cons_zero, List.set_cons_succ]
        refine tkd 18 69 (.bool false) hHeld rfl (by kernel_rfl) (by kernel_rfl) (by kernel_rfl) (fun _ _ _ h => h) (Or.inl ⟨by rfl, ?_⟩) ?_
        · rintro w ⟨⟨q0, q1⟩, ⟨q2, q3, q4, q5⟩, ⟨q6, q7⟩, q8, q9⟩
          go_simp <;> (first | done | decide | omega | (intro _; omega) | (simp; omega))
        try simp only [Act.put, List.setIfInBounds_toArray, List.set_cons_zero, List.set_cons_succ]
        refine tkd 19 70 (.int .i64 (Z.length : Int)) hHeld rfl (by kernel_rfl) (by kernel_rfl) (by kernel_rfl) (fun _ _ _ h => h) (Or.inl ⟨by rfl, ?_⟩) ?_
        · rintro w ⟨⟨q0, q1⟩, ⟨q2, q3, q4, q5⟩, ⟨q6, q7⟩, q8, q9⟩
          go_simp <;> (first | done | decide | omega | (intro _; omega) | (simp; omega))
        try simp only [Act.put, List.setIfInBounds_toArray, List.set_cons_zero, List.set_cons_succ]
        refine tkd 20 71 (.slice (some g4) N.length cv4) hHeld rfl (by kernel_rfl) (by kernel_rfl) (by kernel_rfl) (fun _ _ _ h => h) (Or.inl ⟨by rfl, ?_⟩) ?_
        · rintro w ⟨⟨q0, q1⟩, ⟨q2, q3, q4, q5⟩, ⟨q6, q7⟩, q8, q9⟩
          go_simp <;> (first | done | decide | omega | (intro _; omega) | (simp; omega))
        try simp only [Act.put, List.setIfInBounds_toArray, List.set_cons_zero, List.set_cons_succ]
        refine tkd 21 72 (.int .i64 (N.length : Int)) hHeld rfl (by kernel_rfl) (by kernel_rfl) (by kernel_rfl) (fun _ _ _ h => h) (Or.inl ⟨by rfl, ?_⟩) ?_
        · rintro w ⟨⟨q0, q1⟩, ⟨q2, q3, q4, q5⟩, ⟨q6, q7⟩, q8, q9⟩
          go_simp <;> (first | done | decide | omega | (intro _; omega) | (simp; omega))
        try simp only [Act.put, List.setIfInBounds_toArray, List.set_cons_zero, List.set_cons_succ]
        refine tkd 22 73 (.bool false) hHeld rfl (by kernel_rfl) (by kernel_rfl) (by kernel_rfl) (fun _ _ _ h => h) (Or.inl ⟨by rfl, ?_⟩) ?_
        · rintro w ⟨⟨q0, q1⟩, ⟨q2, q3, q4, q5⟩, ⟨q6, q7⟩, q8, q9⟩
          go_simp <;> (first | done | decide | omega | (intro _; omega) | (simp; omega))
        try simp only [Act.put, List.setIfInBounds_toArray, List.set_cons_zero, List.set_cons_succ]
        refine tkd 23 74 (.bool false) hHeld rfl (by kernel_rfl) (by kernel_rfl) (by kernel_rfl) (fun _ _ _ h => h) (Or.inl ⟨by rfl, ?_⟩) ?_
        · rintro w ⟨⟨q0, q1⟩, ⟨q2, q3, q4, q5⟩, ⟨q6, q7⟩, q8, q9⟩
          go_simp <;> (first | done | decide | omega | (intro _; omega) | (simp; omega))
        try simp only [Act.put, List.setIfInBounds_toArray, List.set_cons_zero, List.set_cons_succ]
        refine tkd 24 75 (.bool false) hHeld rfl (by kernel_rfl) (by kernel_rfl) (by kernel_rfl) (fun _ _ _ h => h) (Or.inl ⟨by rfl, ?_⟩) ?_
        · rintro w ⟨⟨q0, q1⟩, ⟨q2, q3, q4, q5⟩, ⟨q6, q7⟩, q8, q9⟩
          go_simp <;> (first | done | decide | omega | (intro _; omega) | (simp; omega))
        try simp only [Act.put, List.setIfInBounds_toArray, List.set_cons_zero, List.set_cons_succ]
        refine tkd 25 76 (.slice (some g4) N.length cv4) hHeld rfl (by kernel_rfl) (by kernel_rfl) (by kernel_rfl) (fun _ _ _ h => h) (Or.inl ⟨by rfl, ?_⟩) ?_
        · rintro w ⟨⟨q0, q1⟩, ⟨q2, q3, q4, q5⟩, ⟨q6, q7⟩, q8, q9⟩
          go_simp <;> (first | done | decide | omega | (intro _; omega) | (simp; omega))
        try simp only [Act.put, List.setIfInBounds_toArray, List.set_cons_zero, List.set_cons_succ]
        refine tkd 26 77 (.int .i64 (Z.length : Int)) hHeld rfl (by kernel_rfl) (by kernel_rfl) (by kernel_rfl) (fun _ _ _ h => h) (Or.inl ⟨by rfl, ?_⟩) ?_
        · rintro w ⟨⟨q0, q1⟩, ⟨q2, q3, q4, q5⟩, ⟨q6, q7⟩, q8, q9⟩
          go_simp <;> (first | done | decide | omega | (intro _; omega) | (simp; omega))
        try simp only [Act.put, List.setIfInBounds_toArray, List.set_cons_zero, List.set_cons_succ]
        refine tkd 27 78 (.slice (some g4) Z.length cv4) hHeld rfl (by kernel_rfl) (by kernel_rfl) (by kernel_rfl) (fun _ _ _ h => h) (Or.inl ⟨by rfl, ?_⟩) ?_
        · rintro w ⟨⟨q0, q1⟩, ⟨q2, q3, q4, q5⟩, ⟨q6, q7⟩, q8, q9⟩
          go_simp <;> (first | done | decide | omega | (intro _; omega) | (simp; omega))
        try simp only [Act.put, List.setIfInBounds_toArray, List.set_cons_zero, List.set_cons_succ]
        refine tkd 28 79 (.string (strOfNums Z)) hHeld rfl (by kernel_rfl) (by kernel_rfl) (by kernel_rfl) (fun _ _ _ h => h) (Or.inl ⟨by rfl, ?_⟩) ?_
        · rintro w ⟨⟨q0, q1⟩, ⟨q2, q3, q4, q5⟩, ⟨q6, q7⟩, q8, q9⟩
          go_simp <;> (first | done | decide | omega | (intro _; omega) | (simp; omega))
        try simp only [Act.put, List.setIfInBounds_toArray, List.set_cons_zero, List.set_cons_succ]
        refine tkd 29 80 (.pointer (some ⟨w2.heap.size, 2, none⟩)) hHeld rfl (by kernel_rfl) (by kernel_rfl) (by kernel_rfl) (fun _ _ _ h => h) (Or.inl ⟨by rfl, ?_⟩) ?_
        · rintro w ⟨⟨q0, q1⟩, ⟨q2, q3, q4, q5⟩, ⟨q6, q7⟩, q8, q9⟩
          go_simp <;> (first | done | decide | omega | (intro _; omega) | (simp; omega))
        try simp only [Act.put, List.setIfInBounds_toArray, List.set_cons_zero, List.set_cons_succ]
        refine tkd 30 81 (.pointer (some ⟨w2.heap.size, 2, none⟩)) hHeld rfl (by kernel_rfl) (by kernel_rfl) (by kernel_rfl) (fun _ _ _ h => h) (Or.inl ⟨by rfl, ?_⟩) ?_
        · rintro w ⟨⟨q0, q1⟩, ⟨q2, q3, q4, q5⟩, ⟨q6, q7⟩, q8, q9⟩
          go_simp <;> (first | done | decide | omega | (intro _; omega) | (simp; omega))
        try simp only [Act.put, List.setIfInBounds_toArray, List.set_cons_zero, List.set_cons_succ]
        refine tkd 31 82 (.slice ja Z.length jc) hHeld rfl (by kernel_rfl) (by kernel_rfl) (by kernel_rfl) (fun _ _ _ h => h) (Or.inl ⟨by rfl, ?_⟩) ?_
        · rintro w ⟨⟨q0, q1⟩, ⟨q2, q3, q4, q5⟩, ⟨q6, q7⟩, q8, q9⟩
          go_simp <;> (first | done | decide | omega | (intro _; omega) | (simp; omega))
        try simp only [Act.put, List.setIfInBounds_toArray, List.set_cons_zero, List.set_cons_succ]
        refine tkd 32 83 (.string (strOfNums Z)) hHeld rfl (by kernel_rfl) (by kernel_rfl) (by kernel_rfl) (fun _ _ _ h => h) (Or.inl ⟨by rfl, ?_⟩) ?_
        · rintro w ⟨⟨q0, q1⟩, ⟨q2, q3, q4, q5⟩, ⟨q6, q7⟩, q8, q9⟩
          go_simp <;> (first | done | decide | omega | (intro _; omega) | (simp; omega))
        try simp only [Act.put, List.setIfInBounds_toArray, List.set_cons_zero, List.set_cons_succ]
        refine tkd 33 84 (.bool false) hHeld rfl (by kernel_rfl) (by kernel_rfl) (by kernel_rfl) (fun _ _ _ h => h) (Or.inl ⟨by rfl, ?_⟩) ?_
        · rintro w ⟨⟨q0, q1⟩, ⟨q2, q3, q4, q5⟩, ⟨q6, q7⟩, q8, q9⟩
          go_simp <;> (first | done | decide | omega | (intro _; omega) | (simp; omega))
        try simp only [Act.put, List.setIfInBounds_toArray, List.set_cons_zero, List.set_cons_succ]
        refine tkd 34 85 (.bool false) hHeld rfl (by kernel_rfl) (by kernel_rfl) (by kernel_rfl) (fun _ _ _ h => h) (Or.inl ⟨by rfl, ?_⟩) ?_
        · rintro w ⟨⟨q0, q1⟩, ⟨q2, q3, q4, q5⟩, ⟨q6, q7⟩, q8, q9⟩
          go_simp <;> (first | done | decide | omega | (intro _; omega) | (simp; omega))
        try simp only [Act.put, List.setIfInBounds_toArray, List.set_cons_zero, List.set_cons_succ]
        refine tkd 35 86 (.bool false) hHeld rfl (by kernel_rfl) (by kernel_rfl) (by kernel_rfl) (fun _ _ _ h => h) (Or.inl ⟨by rfl, ?_⟩) ?_
        · rintro w ⟨⟨q0, q1⟩, ⟨q2, q3, q4, q5⟩, ⟨q6, q7⟩, q8, q9⟩
          go_simp <;> (first | done | decide | omega | (intro _; omega) | (simp; omega))
        try simp only [Act.put, List.setIfInBounds_toArray, List.set_cons_zero, List.set_cons_succ]
        refine tkd 36 87 (.pointer (some ⟨w5.heap.size, 1, none⟩)) hHeld rfl (by kernel_rfl) (by kernel_rfl) (by kernel_rfl) (fun _ _ _ h => h) (Or.inl ⟨by rfl, ?_⟩) ?_
        · rintro w ⟨⟨q0, q1⟩, ⟨q2, q3, q4, q5⟩, ⟨q6, q7⟩, q8, q9⟩
          go_simp <;> (first | done | decide | omega | (intro _; omega) | (simp; omega))
        try simp only [Act.put, List.setIfInBounds_toArray, List.set_cons_zero, List.set_cons_succ]
        refine tkd 37 88 (.slice na cn nc) hHeld rfl (by kernel_rfl) (by kernel_rfl) (by kernel_rfl) (fun _ _ _ h => h) (Or.inl ⟨by rfl, ?_⟩) ?_
        · rintro w ⟨⟨q0, q1⟩, ⟨q2, q3, q4, q5⟩, ⟨q6, q7⟩, q8, q9⟩
          go_simp <;> (first | done | decide | omega | (intro _; omega) | (simp; omega))
        try simp only [Act.put, List.setIfInBounds_toArray, List.set_cons_zero, List.set_cons_succ]
        refine tkd 38 89 (.int .i64 (cn : Int)) hHeld rfl (by kernel_rfl) (by kernel_rfl) (by kernel_rfl) (fun _ _ _ h => h) (Or.inl ⟨by rfl, ?_⟩) ?_
        · rintro w ⟨⟨q0, q1⟩, ⟨q2, q3, q4, q5⟩, ⟨q6, q7⟩, q8, q9⟩
          go_simp <;> (first | done | decide | omega | (intro _; omega) | (simp; omega))
        try simp only [Act.put, List.setIfInBounds_toArray, List.set_cons_zero, List.set_cons_succ]
        refine tkd 39 90 (.pointer (some ⟨w2.heap.size, 1, none⟩)) hHeld rfl (by kernel_rfl) (by kernel_rfl) (by kernel_rfl) (fun _ _ _ h => h) (Or.inl ⟨by rfl, ?_⟩) ?_
        · rintro w ⟨⟨q0, q1⟩, ⟨q2, q3, q4, q5⟩, ⟨q6, q7⟩, q8, q9⟩
          go_simp <;> (first | done | decide | omega | (intro _; omega) | (simp; omega))
        try simp only [Act.put, List.setIfInBounds_toArray, List.set_cons_zero, List.set_cons_succ]
        refine tkd 40 91 (.int .i64 cnt) hHeld rfl (by kernel_rfl) (by kernel_rfl) (by kernel_rfl) (fun _ _ _ h => h) (Or.inl ⟨by rfl, ?_⟩) ?_
        · rintro w ⟨⟨q0, q1⟩, ⟨q2, q3, q4, q5⟩, ⟨q6, q7⟩, q8, q9⟩
          go_simp <;> (first | done | decide | omega | (intro _; omega) | (simp; omega))
        try simp only [Act.put, List.setIfInBounds_toArray, List.set_cons_zero, List.set_cons_succ]
        refine tkd 41 92 (.bool false) hHeld rfl (by kernel_rfl) (by kernel_rfl) (by kernel_rfl) (fun _ _ _ h => h) (Or.inl ⟨by rfl, ?_⟩) ?_
        · rintro w ⟨⟨q0, q1⟩, ⟨q2, q3, q4, q5⟩, ⟨q6, q7⟩, q8, q9⟩
          go_simp <;> (first | done | decide | omega | (intro _; omega) | (simp; omega))
        try simp only [Act.put, List.setIfInBounds_toArray, List.set_cons_zero, List.set_cons_succ]
        refine tkd 42 93 (.bool false) hHeld rfl (by kernel_rfl) (by kernel_rfl) (by kernel_rfl) (fun _ _ _ h => h) (Or.inl ⟨by rfl, ?_⟩) ?_
        · rintro w ⟨⟨q0, q1⟩, ⟨q2, q3, q4, q5⟩, ⟨q6, q7⟩, q8, q9⟩
          go_simp <;> (first | done | decide | omega | (intro _; omega) | (simp; omega))
        try simp only [Act.put, List.setIfInBounds_toArray, List.set_cons_zero, List.set_cons_succ]
        refine wpAnyH_done (by kernel_rfl) ?_ _
        have T10 := hide (T9.out.below BR.out)
        have R10 := hide (R9.out.below BR.out)
        have Z10 := hide (Z9.out.below BR.out)
        have N10 := hide (N9.out.below BR.out)
        have E10 := hide (E9.out.below BR.out)
        have S10 := hide (S9.out.below BR.out)
        have X10 := hide (X9.out.below BR.out)
        have Y10 := hide (Y0.out.below BR.out)
        have B10 := hide (below_next B9.out BR.out)
        clear KB HZR
        go_wp2_with fail
        refine (HPa.out _).mono ?_
        rintro e w11 ⟨pa, pc, rfl, -, hb11⟩
        have AR := hide (below_next hb11 (below_alloc w11 (.cells #[.int .i64 0, .slice pa 12 pc] 39)))
        have P11 := hide (Two.new w11 (.int .i64 0) (.slice pa 12 pc) 39)
        have N11 := hide (N10.out.below AR.out)
        have S11 := hide (S10.out.below AR.out)
        have X11 := hide (X10.out.below AR.out)
        have Y11 := hide (Y10.out.below AR.out)
        have B11 := hide (below_next B10.out AR.out)
        clear hb11 AR
        obtain ⟨⟨s0, s1, s2, -⟩, -⟩ := S11.out
        obtain ⟨⟨y0, y1, -, -⟩, -⟩ := Y11.out
        obtain ⟨p0, p1⟩ := P11.out
        have hv1 := conv_at (c := cv4) (n := N.length) N11.out rfl
        have hv2 := conv_at (c := xc) (n := N.length) X11.out rfl
        have hca0 := HCA.out
        have hsum : (N.length : Int) + 12 ≤ 2000 := by have h1 := HNLl.out; have h2 := HNl.out; omega
        have hsd : decide ((N.length : Int) + 12 ≤ 2000) = true := decide_eq_true hsum
        have BE := hide (below_next BD.out B11.out)
        go_wp2_with (go_at_call 18; refine (HLi.out _).mono ?_; rintro e wM ⟨rfl, hwM⟩; subst hwM)
        go_ret
        exact ⟨rfl, BE.out⟩

set_option maxRecDepth 100000 in
theorem lifted (os : Os) (started : os.Started) (H : Type) (enc : TypeId × Value → H) :
    ReturnsInHanded {} Try.checked os 3 .any (Rows.fnLogsSpec.pre6 enc Try.prog Try.f3 Rows.fnLogsRow.domain false) (Rows.fnLogsSpec.post enc Try.prog Try.f3 false true false false) := by
  refine returnsInHanded_of_change (C := Try.checked) own started (by kernel_rfl) Try.func3
    (ChangeSpec.witness6 (enc := enc) (C := Try.checked) false ⟨#[], #[.slice none 0 0], []⟩ 8 (by kernel_rfl) (by kernel_rfl) (by kernel_rfl) (by kernel_rfl)) ?_
  intro W base args ds gs before hval0 hW hcnd _
  have hval : ∀ (j : Nat) t v, Try.f3.params[j]? = some t → args[j]? = some v → Value.okWide Try.prog W .any base t v := hval0
  have hW' := hW
  obtain ⟨p, q, hA0, hV, rfl, hfz, hnd⟩ := hW
  have hA : DataW.TrodAll enc Try.prog W 0 (fun _ => true) true Try.f3.params.toList args.toList ds p := hA0
  rw [Try.params3] at hA hval
  obtain ⟨v0, vs0, d0, ds0, p0, q0, hargs, rfl, rfl, h0, r0⟩ := trodAll_cons hA
  obtain ⟨rfl, rfl, rfl⟩ := trodAll_nil r0
  obtain rfl : args = #[v0] := by cases args; simp_all
  obtain ⟨rfl, rfl⟩ := trodVars_none hV
  obtain ⟨a0, len0, cap0, rfl⟩ := okWide_slice Try.underlying22 (hval 0 22 v0 rfl rfl)
  have k0 := h0
  have lt0 : ∀ x ∈ p0, x.block < W.heap.size := by obtain ⟨m, hm⟩ := k0; exact DataW.trod_lt m _ _ _ hm
  obtain ⟨zs, hlen, hread, hu, hmax⟩ : ∃ zs : List Int, zs.length = len0 ∧ Reads .u8 W a0 zs ∧ U8 zs ∧ zs.length ≤ maxLen := by
    obtain ⟨fuel, hf⟩ := h0
    rcases open_ints Try.underlying22 Try.underlying5 (by kernel_rfl) hf with ⟨hcs, _⟩ | ⟨x, l, c, zs, hcs, _, hl, hm, hz, _, hcell, hwz⟩
    · simp [Value.cells] at hcs
      obtain ⟨rfl, rfl, rfl⟩ := hcs
      exact ⟨[], rfl, fun h => absurd rfl h, fun z hz => by simp at hz, Nat.zero_le _⟩
    · simp [Value.cells] at hcs
      obtain ⟨rfl, rfl, rfl⟩ := hcs
      exact reads_of_row (by simpa using hz) hl hm hcell hwz
  subst hlen
  clear hA0 hval0
  refine (walk a0 cap0 zs W hread hu hmax).mono fun e W' ⟨he, bel⟩ => ?_
  subst he
  exact ⟨_, rfl, _, _, _, [], _, [], hW', trodAll_mk1 (shut_bool Try.underlying4 _), (trodAll_cons_mk (Below.trod laidOut (by kernel_rfl) (of_decide_eq_true (by kernel_rfl)) k0 bel lt0) trodAll_mk0), rfl, bel.frame _, fun h => by cases h⟩

theorem over : Rows.fnLogsRow.holds Try.pinned (OpenSpec.ofChange Rows.fnLogsSpec) :=
  OpenClaim.holds_of_wide 3 Try.f3 rfl rfl rfl rfl rfl rfl rfl ⟨rfl, rfl, rfl, rfl, rfl⟩ rfl rfl rfl rfl rfl (by kernel_rfl) Try.func3 (by kernel_rfl)
    (of_decide_eq_true (by kernel_rfl)) (by unfold Func.isWrapper; first | (rw [if_pos (by decide +kernel)]; kernel_rfl) | (rw [if_neg (by decide +kernel)]; exact ⟨rfl, rfl⟩))
    (fun os started H enc _ => lifted os started H enc)

end Go.Proofs.Ytpikgmbjgfdcfaa.fnLogs
namespace Go.Proofs.Ytpikgmbjgfdcfaa
theorem fnLogs_holds : Rows.FnLogsSaid := fnLogs.over
#print axioms fnLogs_holds
end Go.Proofs.Ytpikgmbjgfdcfaa

