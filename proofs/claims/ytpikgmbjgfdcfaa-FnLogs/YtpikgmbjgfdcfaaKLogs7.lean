/-
  Texts put together: LogX.
-/
import Derived.Test.YtpikgmbjgfdcfaaKLogs3
import Derived.Deep.CutBlock
namespace Go.Proofs.Ytpikgmbjgfdcfaa
open Go.RowKit
set_option linter.unusedVariables false

theorem cell_next {w w' : World} {b o : Nat} {v : Value} (h : w.cell? ⟨b, o, none⟩ = some v) (hb : Below w.heap.size w w') : w'.cell? ⟨b, o, none⟩ = some v :=
  (hb.cell (p := ⟨b, o, none⟩) (World.block_lt_of_cell? w _ h)).trans h
set_option maxRecDepth 100000 in
set_option maxHeartbeats 12800000 in
theorem implAppendLog_ok (sa la : Option Addr) (sc lc : Nat) (S L : List Int) (s : ByteArray) (w : World) (h : RdL' w sa sc S la lc L) (h0 : logF S L = 0) (hl : lineF s.data.toList = 0) (N : List Int) (hN : L ++ packZ s.data.toList = N) :
    Calls Try.prog 15 #[.agg #[.slice sa S.length sc, .slice la L.length lc], .string s] w fun r w' => (2000 < S.length + N.length ∧ ResG' 2 0 [] [] w r w') ∨ (¬ 2000 < S.length + N.length ∧ ResG' 0 (((lines S).length + (lines N).length : Nat) : Int) S N w r w') := by
  have hsz := (logF_zero h0).1
  have hss := lineF_size hl
  have hpl := packZ_len s.data.toList
  rw [line_len] at hpl
  have hpu := packZ_u8 (l := s.data.toList) (by rw [line_len]; omega)
  have HP := hide (fun u : World => implPackLine_ok s u hl)
  generalize packZ s.data.toList = pk at *
  have hnl : N.length ≤ 4096 := by rw [← hN, List.length_append]; omega
  have HNU := hide (show U8 N from hN ▸ u8_app h.lu8 hpu)
  have HJ1 : Hid (∀ (u : World) (g : Nat), Below w.heap.size w u → u.cell? ⟨g, 0, none⟩ = some (.slice sa S.length sc) → Calls Try.prog 45 #[.slice (some ⟨g, 0, none⟩) 1 1] u fun e w' => ∃ a' c', e = .returned (.slice a' S.length c') ∧ GB u.heap.size w'.heap.size w' (.slice a' S.length c') S ∧ Below u.heap.size u w') := hide (fun u g hb h1 => join1_any sa sc S g u h1 (h.sure.below hb) h.slen)
  have HJ2 : Hid (∀ (u : World) (p : Option Addr) (c g : Nat), Below w.heap.size w u → Reads .u8 u p pk → u.cell? ⟨g, 0, none⟩ = some (.slice la L.length lc) → u.cell? ⟨g, 1, none⟩ = some (.slice p pk.length c) → Calls Try.prog 45 #[.slice (some ⟨g, 0, none⟩) 2 2] u fun e w' => ∃ a' c', e = .returned (.slice a' N.length c') ∧ GB u.heap.size w'.heap.size w' (.slice a' N.length c') N ∧ Below u.heap.size u w') := hide (fun u p c g hb hr h1 h2 => join2_any la p lc c L pk N g u hN h1 h2 (h.loose.below hb) hr (by omega))
  clear hpu hl hN hpl
  have A0 := hide (below_alloc w (.cells #[.slice sa S.length sc, .slice la L.length lc] 25))
  have A1 := hide (below_alloc (w.alloc (.cells #[.slice sa S.length sc, .slice la L.length lc] 25)) (.cells #[.int .i64 0, .int .i64 0, .slice none 0 0, .slice none 0 0] 29))
  have B0 := hide (below_next A0.out A1.out)
  have T0 := hide ((Two.new w (.slice sa S.length sc) (.slice la L.length lc) 25).below A1.out)
  have X4 := hide (Box4r.new (w.alloc (.cells #[.slice sa S.length sc, .slice la L.length lc] 25)) (.int .i64 0) (.int .i64 0) (.slice none 0 0) (.slice none 0 0) 29)
  rw [show (w.alloc (.cells #[.slice sa S.length sc, .slice la L.length lc] 25)).heap.size = w.heap.size + 1 by simp] at X4
  have HZ2 := hide (show ((w.alloc (.cells #[.slice sa S.length sc, .slice la L.length lc] 25)).alloc (.cells #[.int .i64 0, .int .i64 0, .slice none 0 0, .slice none 0 0] 29)).heap.size = w.heap.size + 2 by simp)
  have HF := hide (fun (u : World) (hb : Below w.heap.size w u) => implLogFault_any sa la sc lc S L u (h.below hb))
  rw [h0] at HF
  have HR := hide h
  clear h h0
  go_enter Try.func15, Try.ntmps15
  obtain ⟨t0, t1⟩ := T0.out
  go_wp2_with fail
  refine (HF.out _ B0.out).mono ?_
  rintro e w1 ⟨rfl, hb1⟩
  clear t0 t1
  generalize (w.alloc (.cells #[.slice sa S.length sc, .slice la L.length lc] 25)).alloc (.cells #[.int .i64 0, .int .i64 0, .slice none 0 0, .slice none 0 0] 29) = W0 at *
  have hs1 : w.heap.size + 2 ≤ w1.heap.size := by have := hb1.size; have := HZ2.out; omega
  have B1 := hide (below_next B0.out hb1)
  have X1 := hide (X4.out.below hb1)
  have T1 := hide (T0.out.below hb1)
  clear hb1 X4 T0 A1 A0
  go_wp2_with fail
  refine (HP.out _).mono ?_
  rintro e w2 ⟨pa, pc, rfl, hg2, hb2⟩
  have A2 := hide (below_next hb2 (below_alloc w2 (.cells #[.int .i64 0, .slice pa pk.length pc] 39)))
  have B2 := hide (below_next B1.out A2.out)
  have hs2 := hb2.size
  have X2 := hide (X1.out.below A2.out)
  have T2 := hide (T1.out.below A2.out)
  have RP := hide (hg2.own.reads.below (below_alloc w2 (.cells #[.int .i64 0, .slice pa pk.length pc] 39)))
  have U2 := hide (Two.new w2 (.int .i64 0) (.slice pa pk.length pc) 39)
  obtain ⟨u0, u1⟩ := U2.out
  clear hb2 hg2 A2 X1 T1
  go_upto_region 7 with fail
  clear u0 u1
  have HZW : Hid ((w2.alloc (.cells #[.int .i64 0, .slice pa pk.length pc] 39)).heap.size = w2.heap.size + 1) := hide (by simp)
  generalize w2.alloc (.cells #[.int .i64 0, .slice pa pk.length pc] 39) = W1 at *
  have KB : Hid (∀ u : World, Below W1.heap.size W1 u → u.cell? ⟨w.heap.size, 0, none⟩ = some (.slice sa S.length sc) ∧ u.cell? ⟨w.heap.size, 1, none⟩ = some (.slice la L.length lc) ∧ u.cell? ⟨w2.heap.size, 1, none⟩ = some (.slice pa pk.length pc)) := hide (fun u hu => ⟨(T2.out.below hu).1, (T2.out.below hu).2, (U2.out.below hu).2⟩)
  go_cut [7] from 22 to 32 (fun v7 wc => ∃ ab ja jc ka kc M, v7 = .pointer (some ⟨ab, 0, none⟩) ∧ Hid (Two wc ab (.slice ja S.length jc) (.slice ka N.length kc)) ∧ Hid (GB W1.heap.size M wc (.slice ja S.length jc) S) ∧ Hid (GB M wc.heap.size wc (.slice ka N.length kc) N) ∧ W1.heap.size ≤ M ∧ M ≤ wc.heap.size ∧ Hid (Below W1.heap.size W1 wc))
  case first =>
    refine wp_region_held_drew (S := fun u => u.cell? ⟨w.heap.size, 0, none⟩ = some (.slice sa S.length sc) ∧ u.cell? ⟨w.heap.size, 1, none⟩ = some (.slice la L.length lc) ∧ u.cell? ⟨w2.heap.size, 1, none⟩ = some (.slice pa pk.length pc)) (by kernel_rfl) (KB.out _ (Below.refl _ _).drew) (fun hHeld => ?_)
    change wpAnyH _ _ _ _ _ _ (Array.replicate _ false) _ (World.drew _)
    have BR := hide ((Below.refl W1.heap.size W1).drew)
    have hsD : W1.heap.size ≤ W1.drew.heap.size := Nat.le_refl _
    generalize W1.drew = D at *
    refine tk 0 22 (.pointer (some ⟨w.heap.size, 0, none⟩)) hHeld rfl (by kernel_rfl) (by kernel_rfl) (by kernel_rfl) (fun _ _ _ h => h) (Or.inl ⟨by rfl, ?_⟩) ?_
    · rintro w ⟨q0, q1, q2⟩
      go_simp
    try simp only [Act.put, List.setIfInBounds_toArray, List.set_cons_zero, List.set_cons_succ]
    refine tk 1 23 (.slice sa S.length sc) hHeld rfl (by kernel_rfl) (by kernel_rfl) (by kernel_rfl) (fun _ _ _ h => h) (Or.inl ⟨by rfl, ?_⟩) ?_
    · rintro w ⟨q0, q1, q2⟩
      go_simp
    try simp only [Act.put, List.setIfInBounds_toArray, List.set_cons_zero, List.set_cons_succ]
    refine tk 4 26 (.pointer (some ⟨w.heap.size, 1, none⟩)) hHeld rfl (by kernel_rfl) (by kernel_rfl) (by kernel_rfl) (fun _ _ _ h => h) (Or.inl ⟨by rfl, ?_⟩) ?_
    · rintro w ⟨q0, q1, q2⟩
      go_simp
    try simp only [Act.put, List.setIfInBounds_toArray, List.set_cons_zero, List.set_cons_succ]
    refine tk 5 27 (.slice la L.length lc) hHeld rfl (by kernel_rfl) (by kernel_rfl) (by kernel_rfl) (fun _ _ _ h => h) (Or.inl ⟨by rfl, ?_⟩) ?_
    · rintro w ⟨q0, q1, q2⟩
      go_simp
    try simp only [Act.put, List.setIfInBounds_toArray, List.set_cons_zero, List.set_cons_succ]
    refine tk 6 28 (.pointer (some ⟨w2.heap.size, 1, none⟩)) hHeld rfl (by kernel_rfl) (by kernel_rfl) (by kernel_rfl) (fun _ _ _ h => h) (Or.inl ⟨by rfl, ?_⟩) ?_
    · rintro w ⟨q0, q1, q2⟩
      go_simp
    try simp only [Act.put, List.setIfInBounds_toArray, List.set_cons_zero, List.set_cons_succ]
    refine tk 7 29 (.slice pa pk.length pc) hHeld rfl (by kernel_rfl) (by kernel_rfl) (by kernel_rfl) (fun _ _ _ h => h) (Or.inl ⟨by rfl, ?_⟩) ?_
    · rintro w ⟨q0, q1, q2⟩
      go_simp
    try simp only [Act.put, List.setIfInBounds_toArray, List.set_cons_zero, List.set_cons_succ]
    refine wpAnyH_ready (rs := [2, 8, 11]) (by kernel_rfl) (by simp) ?_
    refine AllReadyH.cons rfl (fun K hK => ?_) (AllReadyH.cons rfl (fun K hK => ?_) (AllReadyH.cons rfl (fun K hK => ?_) AllReadyH.nil))
    · have BRn := hide (below_next BR.out (below_alloc D (.cells #[.slice sa S.length sc] 22)))
      have R1n := hide (show (D.alloc (.cells #[.slice sa S.length sc] 22)).cell? ⟨D.heap.size, 0, none⟩ = some (.slice sa S.length sc) by simp)
      have hsv1 : D.heap.size < (D.alloc (.cells #[.slice sa S.length sc] 22)).heap.size := by simp
      go_simp
      refine hK.out _ _ (KB.out _ BRn.out) (fun hHeld => ?_)
      clear hK K BR
      have BR := BRn
      clear BRn
      have R1 := R1n
      clear R1n
      try simp only [Act.put, List.setIfInBounds_toArray, List.set_cons_zero, List.set_cons_succ]
      generalize D.alloc (.cells #[.slice sa S.length sc] 22) = v1 at *
      refine wpAnyH_ready (rs := [3, 8, 11]) (by kernel_rfl) (by simp) ?_
      refine AllReadyH.cons rfl (fun K hK => ?_) (AllReadyH.cons rfl (fun K hK => ?_) (AllReadyH.cons rfl (fun K hK => ?_) AllReadyH.nil))
      · go_simp
        refine (HJ1.out v1 _ (below_next B2.out BR.out) R1.out).mono ?_
        rintro e v2 ⟨ja, jc, rfl, hgv2, hbv2⟩
        have BRn := hide (below_next BR.out hbv2)
        have G1n := hide hgv2
        have hsv2 : v1.heap.size ≤ v2.heap.size := hbv2.size
        clear hgv2 hbv2
        go_wp2_with fail
        refine hK.out _ _ (KB.out _ BRn.out) (fun hHeld => ?_)
        clear hK K R1 BR
        have BR := BRn
        clear BRn
        have G1 := G1n
        clear G1n
        try simp only [Act.put, List.setIfInBounds_toArray, List.set_cons_zero, List.set_cons_succ]
        refine wpAnyH_ready (rs := [8, 11]) (by kernel_rfl) (by simp) ?_
        refine AllReadyH.cons rfl (fun K hK => ?_) (AllReadyH.cons rfl (fun K hK => ?_) AllReadyH.nil)
        · have BRn := hide (below_next BR.out (below_alloc v2 (.cells #[.slice la L.length lc, .slice pa pk.length pc] 22)))
          have G1n := hide (G1.out.below (below_alloc v2 (.cells #[.slice la L.length lc, .slice pa pk.length pc] 22)))
          have R2n := hide (Two.new v2 (.slice la L.length lc) (.slice pa pk.length pc) 22)
          have hsv3 : v2.heap.size < (v2.alloc (.cells #[.slice la L.length lc, .slice pa pk.length pc] 22)).heap.size := by simp
          go_simp
          refine hK.out _ _ (KB.out _ BRn.out) (fun hHeld => ?_)
          clear hK K BR G1
          have BR := BRn
          clear BRn
          have G1 := G1n
          clear G1n
          have R2 := R2n
          clear R2n
          try simp only [Act.put, List.setIfInBounds_toArray, List.set_cons_zero, List.set_cons_succ]
          generalize v2.alloc (.cells #[.slice la L.length lc, .slice pa pk.length pc] 22) = v3 at *
          refine wpAnyH_ready (rs := [9, 11]) (by kernel_rfl) (by simp) ?_
          refine AllReadyH.cons rfl (fun K hK => ?_) (AllReadyH.cons rfl (fun K hK => ?_) AllReadyH.nil)
          · go_simp
            refine (HJ2.out v3 pa pc _ (below_next B2.out BR.out) (RP.out.below BR.out) R2.out.1 R2.out.2).mono ?_
            rintro e v4 ⟨ka, kc, rfl, hgv4, hbv4⟩
            have BRn := hide (below_next BR.out hbv4)
            have G2n := hide hgv4
            have hsv4 : v3.heap.size ≤ v4.heap.size := hbv4.size
            have G1n := hide (G1.out.below hbv4)
            clear hgv4 hbv4
            go_wp2_with fail
            refine hK.out _ _ (KB.out _ BRn.out) (fun hHeld => ?_)
            clear hK K R2 BR G1
            have BR := BRn
            clear BRn
            have G2 := G2n
            clear G2n
            have G1 := G1n
            clear G1n
            try simp only [Act.put, List.setIfInBounds_toArray, List.set_cons_zero, List.set_cons_succ]
            refine tk 10 32 (.agg #[.slice ja S.length jc, .slice ka N.length kc]) hHeld rfl (by kernel_rfl) (by kernel_rfl) (by kernel_rfl) (fun _ _ _ h => h) (Or.inl ⟨by rfl, ?_⟩) ?_
            · rintro w ⟨q0, q1, q2⟩
              go_simp
            try simp only [Act.put, List.setIfInBounds_toArray, List.set_cons_zero, List.set_cons_succ]
            refine wpAnyH_ready (rs := [11]) (by kernel_rfl) (by simp) ?_
            refine AllReadyH.cons rfl (fun K hK => ?_) AllReadyH.nil
            have BRn := hide (below_next BR.out (below_alloc v4 (.cells #[.slice none 0 0, .slice none 0 0] 25)))
            have G1n := hide (G1.out.below (below_alloc v4 (.cells #[.slice none 0 0, .slice none 0 0] 25)))
            have G2n := hide (G2.out.below (below_alloc v4 (.cells #[.slice none 0 0, .slice none 0 0] 25)))
            have XAn := hide (Box.new v4 (.slice none 0 0) (.slice none 0 0) 25)
            have hsv5 : v4.heap.size < (v4.alloc (.cells #[.slice none 0 0, .slice none 0 0] 25)).heap.size := by simp
            go_simp
            refine hK.out _ _ (KB.out _ BRn.out) (fun hHeld => ?_)
            clear hK K BR G1 G2
            have BR := BRn
            clear BRn
            have G1 := G1n
            clear G1n
            have G2 := G2n
            clear G2n
            have XA := XAn
            clear XAn
            try simp only [Act.put, List.setIfInBounds_toArray, List.set_cons_zero, List.set_cons_succ]
            generalize v4.alloc (.cells #[.slice none 0 0, .slice none 0 0] 25) = v5 at *
            refine wpAnyH_ready (rs := [12]) (by kernel_rfl) (by simp) ?_
            refine AllReadyH.cons rfl (fun K hK => ?_) AllReadyH.nil
            obtain ⟨⟨z0, z1⟩, z2, z3⟩ := XA.out
            have KT := hide (Kept.two v5 (v4.heap.size) 0 1 (.slice ja S.length jc) (.slice ka N.length kc))
            have hszW := BR.out.size
            have BZ := hide (BR.out.trans (KT.out.below (B := W1.heap.size) hszW (fun x hx e => by omega)))
            have G1z := hide (G1.out.kept KT.out (fun x h1 h2 e => by omega))
            have G2z := hide (G2.out.kept KT.out (fun x h1 h2 e => by omega))
            have TZ : Hid (Two ((v5.setCell ⟨v4.heap.size, 0, none⟩ (.slice ja S.length jc)).setCell ⟨v4.heap.size, 1, none⟩ (.slice ka N.length kc)) (v4.heap.size) (.slice ja S.length jc) (.slice ka N.length kc)) := hide ⟨by rw [cell_set_other (by simp)]; exact cell_set_same z0, cell_set_same ((cell_set_other (by simp)).trans z1)⟩
            clear KT G1 G2 BR XA
            go_simp
            refine hK.out _ _ (KB.out _ BZ.out) (fun hHeld => ?_)
            clear hK K
            try simp only [Act.put, List.setIfInBounds_toArray, List.set_cons_zero, List.set_cons_succ]
            refine wpAnyH_done (by kernel_rfl) ?_ _
            go_wp2_with fail
            go_meet
            case rel => exact ⟨v4.heap.size, ja, jc, ka, kc, v2.heap.size, rfl, TZ, hide (G1z.out.low (by omega)), hide (by have := G2z.out.low (B' := v2.heap.size) (by omega); exact ⟨this.1, fun x hx => by have := this.2 x hx; simp; omega⟩), by omega, by simp; omega, BZ⟩
          · have BRn := hide (below_next BR.out (below_alloc v3 (.cells #[.slice none 0 0, .slice none 0 0] 25)))
            have R2n := hide (R2.out.below (below_alloc v3 (.cells #[.slice none 0 0, .slice none 0 0] 25)))
            have G1n := hide (G1.out.below (below_alloc v3 (.cells #[.slice none 0 0, .slice none 0 0] 25)))
            have XAn := hide (Box.new v3 (.slice none 0 0) (.slice none 0 0) 25)
            have hsv6 : v3.heap.size < (v3.alloc (.cells #[.slice none 0 0, .slice none 0 0] 25)).heap.size := by simp
            go_simp
            refine hK.out _ _ (KB.out _ BRn.out) (fun hHeld => ?_)
            clear hK K BR R2 G1
            have BR := BRn
            clear BRn
            have R2 := R2n
            clear R2n
            have G1 := G1n
            clear G1n
            have XA := XAn
            clear XAn
            try simp only [Act.put, List.setIfInBounds_toArray, List.set_cons_zero, List.set_cons_succ]
            generalize v3.alloc (.cells #[.slice none 0 0, .slice none 0 0] 25) = v6 at *
            refine wpAnyH_ready (rs := [9]) (by kernel_rfl) (by simp) ?_
            refine AllReadyH.cons rfl (fun K hK => ?_) AllReadyH.nil
            go_simp
            refine (HJ2.out v6 pa pc _ (below_next B2.out BR.out) (RP.out.below BR.out) R2.out.1 R2.out.2).mono ?_
            rintro e v7 ⟨ka, kc, rfl, hgv7, hbv7⟩
            have BRn := hide (below_next BR.out hbv7)
            have G2n := hide hgv7
            have hsv7 : v6.heap.size ≤ v7.heap.size := hbv7.size
            have XAn := hide (XA.out.below hbv7)
            have G1n := hide (G1.out.below hbv7)
            clear hgv7 hbv7
            go_wp2_with fail
            refine hK.out _ _ (KB.out _ BRn.out) (fun hHeld => ?_)
            clear hK K R2 BR XA G1
            have BR := BRn
            clear BRn
            have G2 := G2n
            clear G2n
            have XA := XAn
            clear XAn
            have G1 := G1n
            clear G1n
            try simp only [Act.put, List.setIfInBounds_toArray, List.set_cons_zero, List.set_cons_succ]
            refine tk 10 32 (.agg #[.slice ja S.length jc, .slice ka N.length kc]) hHeld rfl (by kernel_rfl) (by kernel_rfl) (by kernel_rfl) (fun _ _ _ h => h) (Or.inl ⟨by rfl, ?_⟩) ?_
            · rintro w ⟨q0, q1, q2⟩
              go_simp
            try simp only [Act.put, List.setIfInBounds_toArray, List.set_cons_zero, List.set_cons_succ]
            refine wpAnyH_ready (rs := [12]) (by kernel_rfl) (by simp) ?_
            refine AllReadyH.cons rfl (fun K hK => ?_) AllReadyH.nil
            obtain ⟨⟨z0, z1⟩, z2, z3⟩ := XA.out
            have KT := hide (Kept.two v7 (v3.heap.size) 0 1 (.slice ja S.length jc) (.slice ka N.length kc))
            have hszW := BR.out.size
            have BZ := hide (BR.out.trans (KT.out.below (B := W1.heap.size) hszW (fun x hx e => by omega)))
            have G1z := hide (G1.out.kept KT.out (fun x h1 h2 e => by omega))
            have G2z := hide (G2.out.kept KT.out (fun x h1 h2 e => by omega))
            have TZ : Hid (Two ((v7.setCell ⟨v3.heap.size, 0, none⟩ (.slice ja S.length jc)).setCell ⟨v3.heap.size, 1, none⟩ (.slice ka N.length kc)) (v3.heap.size) (.slice ja S.length jc) (.slice ka N.length kc)) := hide ⟨by rw [cell_set_other (by simp)]; exact cell_set_same z0, cell_set_same ((cell_set_other (by simp)).trans z1)⟩
            clear KT G1 G2 BR XA
            go_simp
            refine hK.out _ _ (KB.out _ BZ.out) (fun hHeld => ?_)
            clear hK K
            try simp only [Act.put, List.setIfInBounds_toArray, List.set_cons_zero, List.set_cons_succ]
            refine wpAnyH_done (by kernel_rfl) ?_ _
            go_wp2_with fail
            go_meet
            case rel => exact ⟨v3.heap.size, ja, jc, ka, kc, v2.heap.size, rfl, TZ, hide (G1z.out.low (by omega)), hide (by have := G2z.out.low (B' := v2.heap.size) (by omega); exact ⟨this.1, fun x hx => by have := this.2 x hx; simp; omega⟩), by omega, by simp; omega, BZ⟩
        · have BRn := hide (below_next BR.out (below_alloc v2 (.cells #[.slice none 0 0, .slice none 0 0] 25)))
          have G1n := hide (G1.out.below (below_alloc v2 (.cells #[.slice none 0 0, .slice none 0 0] 25)))
          have XAn := hide (Box.new v2 (.slice none 0 0) (.slice none 0 0) 25)
          have hsv8 : v2.heap.size < (v2.alloc (.cells #[.slice none 0 0, .slice none 0 0] 25)).heap.size := by simp
          go_simp
          refine hK.out _ _ (KB.out _ BRn.out) (fun hHeld => ?_)
          clear hK K BR G1
          have BR := BRn
          clear BRn
          have G1 := G1n
          clear G1n
          have XA := XAn
          clear XAn
          try simp only [Act.put, List.setIfInBounds_toArray, List.set_cons_zero, List.set_cons_succ]
          generalize v2.alloc (.cells #[.slice none 0 0, .slice none 0 0] 25) = v8 at *
          refine wpAnyH_ready (rs := [8]) (by kernel_rfl) (by simp) ?_
          refine AllReadyH.cons rfl (fun K hK => ?_) AllReadyH.nil
          have BRn := hide (below_next BR.out (below_alloc v8 (.cells #[.slice la L.length lc, .slice pa pk.length pc] 22)))
          have XAn := hide (XA.out.below (below_alloc v8 (.cells #[.slice la L.length lc, .slice pa pk.length pc] 22)))
          have G1n := hide (G1.out.below (below_alloc v8 (.cells #[.slice la L.length lc, .slice pa pk.length pc] 22)))
          have R2n := hide (Two.new v8 (.slice la L.length lc) (.slice pa pk.length pc) 22)
          have hsv9 : v8.heap.size < (v8.alloc (.cells #[.slice la L.length lc, .slice pa pk.length pc] 22)).heap.size := by simp
          go_simp
          refine hK.out _ _ (KB.out _ BRn.out) (fun hHeld => ?_)
          clear hK K BR XA G1
          have BR := BRn
          clear BRn
          have XA := XAn
          clear XAn
          have G1 := G1n
          clear G1n
          have R2 := R2n
          clear R2n
          try simp only [Act.put, List.setIfInBounds_toArray, List.set_cons_zero, List.set_cons_succ]
          generalize v8.alloc (.cells #[.slice la L.length lc, .slice pa pk.length pc] 22) = v9 at *
          refine wpAnyH_ready (rs := [9]) (by kernel_rfl) (by simp) ?_
          refine AllReadyH.cons rfl (fun K hK => ?_) AllReadyH.nil
          go_simp
          refine (HJ2.out v9 pa pc _ (below_next B2.out BR.out) (RP.out.below BR.out) R2.out.1 R2.out.2).mono ?_
          rintro e v10 ⟨ka, kc, rfl, hgv10, hbv10⟩
          have BRn := hide (below_next BR.out hbv10)
          have G2n := hide hgv10
          have hsv10 : v9.heap.size ≤ v10.heap.size := hbv10.size
          have XAn := hide (XA.out.below hbv10)
          have G1n := hide (G1.out.below hbv10)
          clear hgv10 hbv10
          go_wp2_with fail
          refine hK.out _ _ (KB.out _ BRn.out) (fun hHeld => ?_)
          clear hK K R2 BR XA G1
          have BR := BRn
          clear BRn
          have G2 := G2n
          clear G2n
          have XA := XAn
          clear XAn
          have G1 := G1n
          clear G1n
          try simp only [Act.put, List.setIfInBounds_toArray, List.set_cons_zero, List.set_cons_succ]
          refine tk 10 32 (.agg #[.slice ja S.length jc, .slice ka N.length kc]) hHeld rfl (by kernel_rfl) (by kernel_rfl) (by kernel_rfl) (fun _ _ _ h => h) (Or.inl ⟨by rfl, ?_⟩) ?_
          · rintro w ⟨q0, q1, q2⟩
            go_simp
          try simp only [Act.put, List.setIfInBounds_toArray, List.set_cons_zero, List.set_cons_succ]
          refine wpAnyH_ready (rs := [12]) (by kernel_rfl) (by simp) ?_
          refine AllReadyH.cons rfl (fun K hK => ?_) AllReadyH.nil
          obtain ⟨⟨z0, z1⟩, z2, z3⟩ := XA.out
          have KT := hide (Kept.two v10 (v2.heap.size) 0 1 (.slice ja S.length jc) (.slice ka N.length kc))
          have hszW := BR.out.size
          have BZ := hide (BR.out.trans (KT.out.below (B := W1.heap.size) hszW (fun x hx e => by omega)))
          have G1z := hide (G1.out.kept KT.out (fun x h1 h2 e => by omega))
          have G2z := hide (G2.out.kept KT.out (fun x h1 h2 e => by omega))
          have TZ : Hid (Two ((v10.setCell ⟨v2.heap.size, 0, none⟩ (.slice ja S.length jc)).setCell ⟨v2.heap.size, 1, none⟩ (.slice ka N.length kc)) (v2.heap.size) (.slice ja S.length jc) (.slice ka N.length kc)) := hide ⟨by rw [cell_set_other (by simp)]; exact cell_set_same z0, cell_set_same ((cell_set_other (by simp)).trans z1)⟩
          clear KT G1 G2 BR XA
          go_simp
          refine hK.out _ _ (KB.out _ BZ.out) (fun hHeld => ?_)
          clear hK K
          try simp only [Act.put, List.setIfInBounds_toArray, List.set_cons_zero, List.set_cons_succ]
          refine wpAnyH_done (by kernel_rfl) ?_ _
          go_wp2_with fail
          go_meet
          case rel => exact ⟨v2.heap.size, ja, jc, ka, kc, v2.heap.size, rfl, TZ, hide (G1z.out.low (by omega)), hide (by have := G2z.out.low (B' := v2.heap.size) (by omega); exact ⟨this.1, fun x hx => by have := this.2 x hx; simp; omega⟩), by omega, by simp; omega, BZ⟩
      · have BRn := hide (below_next BR.out (below_alloc v1 (.cells #[.slice la L.length lc, .slice pa pk.length pc] 22)))
        have R1n := hide (cell_next R1.out (below_alloc v1 (.cells #[.slice la L.length lc, .slice pa pk.length pc] 22)))
        have R2n := hide (Two.new v1 (.slice la L.length lc) (.slice pa pk.length pc) 22)
        have hsv11 : v1.heap.size < (v1.alloc (.cells #[.slice la L.length lc, .slice pa pk.length pc] 22)).heap.size := by simp
        go_simp
        refine hK.out _ _ (KB.out _ BRn.out) (fun hHeld => ?_)
        clear hK K BR R1
        have BR := BRn
        clear BRn
        have R1 := R1n
        clear R1n
        have R2 := R2n
        clear R2n
        try simp only [Act.put, List.setIfInBounds_toArray, List.set_cons_zero, List.set_cons_succ]
        generalize v1.alloc (.cells #[.slice la L.length lc, .slice pa pk.length pc] 22) = v11 at *
        refine wpAnyH_ready (rs := [3, 11]) (by kernel_rfl) (by simp) ?_
        refine AllReadyH.cons rfl (fun K hK => ?_) (AllReadyH.cons rfl (fun K hK => ?_) AllReadyH.nil)
        · go_simp
          refine (HJ1.out v11 _ (below_next B2.out BR.out) R1.out).mono ?_
          rintro e v12 ⟨ja, jc, rfl, hgv12, hbv12⟩
          have BRn := hide (below_next BR.out hbv12)
          have G1n := hide hgv12
          have hsv12 : v11.heap.size ≤ v12.heap.size := hbv12.size
          have R2n := hide (R2.out.below hbv12)
          clear hgv12 hbv12
          go_wp2_with fail
          refine hK.out _ _ (KB.out _ BRn.out) (fun hHeld => ?_)
          clear hK K R1 BR R2
          have BR := BRn
          clear BRn
          have G1 := G1n
          clear G1n
          have R2 := R2n
          clear R2n
          try simp only [Act.put, List.setIfInBounds_toArray, List.set_cons_zero, List.set_cons_succ]
          refine wpAnyH_ready (rs := [9, 11]) (by kernel_rfl) (by simp) ?_
          refine AllReadyH.cons rfl (fun K hK => ?_) (AllReadyH.cons rfl (fun K hK => ?_) AllReadyH.nil)
          · go_simp
            refine (HJ2.out v12 pa pc _ (below_next B2.out BR.out) (RP.out.below BR.out) R2.out.1 R2.out.2).mono ?_
            rintro e v13 ⟨ka, kc, rfl, hgv13, hbv13⟩
            have BRn := hide (below_next BR.out hbv13)
            have G2n := hide hgv13
            have hsv13 : v12.heap.size ≤ v13.heap.size := hbv13.size
            have G1n := hide (G1.out.below hbv13)
            clear hgv13 hbv13
            go_wp2_with fail
            refine hK.out _ _ (KB.out _ BRn.out) (fun hHeld => ?_)
            clear hK K R2 BR G1
            have BR := BRn
            clear BRn
            have G2 := G2n
            clear G2n
            have G1 := G1n
            clear G1n
            try simp only [Act.put, List.setIfInBounds_toArray, List.set_cons_zero, List.set_cons_succ]
            refine tk 10 32 (.agg #[.slice ja S.length jc, .slice ka N.length kc]) hHeld rfl (by kernel_rfl) (by kernel_rfl) (by kernel_rfl) (fun _ _ _ h => h) (Or.inl ⟨by rfl, ?_⟩) ?_
            · rintro w ⟨q0, q1, q2⟩
              go_simp
            try simp only [Act.put, List.setIfInBounds_toArray, List.set_cons_zero, List.set_cons_succ]
            refine wpAnyH_ready (rs := [11]) (by kernel_rfl) (by simp) ?_
            refine AllReadyH.cons rfl (fun K hK => ?_) AllReadyH.nil
            have BRn := hide (below_next BR.out (below_alloc v13 (.cells #[.slice none 0 0, .slice none 0 0] 25)))
            have G1n := hide (G1.out.below (below_alloc v13 (.cells #[.slice none 0 0, .slice none 0 0] 25)))
            have G2n := hide (G2.out.below (below_alloc v13 (.cells #[.slice none 0 0, .slice none 0 0] 25)))
            have XAn := hide (Box.new v13 (.slice none 0 0) (.slice none 0 0) 25)
            have hsv14 : v13.heap.size < (v13.alloc (.cells #[.slice none 0 0, .slice none 0 0] 25)).heap.size := by simp
            go_simp
            refine hK.out _ _ (KB.out _ BRn.out) (fun hHeld => ?_)
            clear hK K BR G1 G2
            have BR := BRn
            clear BRn
            have G1 := G1n
            clear G1n
            have G2 := G2n
            clear G2n
            have XA := XAn
            clear XAn
            try simp only [Act.put, List.setIfInBounds_toArray, List.set_cons_zero, List.set_cons_succ]
            generalize v13.alloc (.cells #[.slice none 0 0, .slice none 0 0] 25) = v14 at *
            refine wpAnyH_ready (rs := [12]) (by kernel_rfl) (by simp) ?_
            refine AllReadyH.cons rfl (fun K hK => ?_) AllReadyH.nil
            obtain ⟨⟨z0, z1⟩, z2, z3⟩ := XA.out
            have KT := hide (Kept.two v14 (v13.heap.size) 0 1 (.slice ja S.length jc) (.slice ka N.length kc))
            have hszW := BR.out.size
            have BZ := hide (BR.out.trans (KT.out.below (B := W1.heap.size) hszW (fun x hx e => by omega)))
            have G1z := hide (G1.out.kept KT.out (fun x h1 h2 e => by omega))
            have G2z := hide (G2.out.kept KT.out (fun x h1 h2 e => by omega))
            have TZ : Hid (Two ((v14.setCell ⟨v13.heap.size, 0, none⟩ (.slice ja S.length jc)).setCell ⟨v13.heap.size, 1, none⟩ (.slice ka N.length kc)) (v13.heap.size) (.slice ja S.length jc) (.slice ka N.length kc)) := hide ⟨by rw [cell_set_other (by simp)]; exact cell_set_same z0, cell_set_same ((cell_set_other (by simp)).trans z1)⟩
            clear KT G1 G2 BR XA
            go_simp
            refine hK.out _ _ (KB.out _ BZ.out) (fun hHeld => ?_)
            clear hK K
            try simp only [Act.put, List.setIfInBounds_toArray, List.set_cons_zero, List.set_cons_succ]
            refine wpAnyH_done (by kernel_rfl) ?_ _
            go_wp2_with fail
            go_meet
            case rel => exact ⟨v13.heap.size, ja, jc, ka, kc, v12.heap.size, rfl, TZ, hide (G1z.out.low (by omega)), hide (by have := G2z.out.low (B' := v12.heap.size) (by omega); exact ⟨this.1, fun x hx => by have := this.2 x hx; simp; omega⟩), by omega, by simp; omega, BZ⟩
          · have BRn := hide (below_next BR.out (below_alloc v12 (.cells #[.slice none 0 0, .slice none 0 0] 25)))
            have R2n := hide (R2.out.below (below_alloc v12 (.cells #[.slice none 0 0, .slice none 0 0] 25)))
            have G1n := hide (G1.out.below (below_alloc v12 (.cells #[.slice none 0 0, .slice none 0 0] 25)))
            have XAn := hide (Box.new v12 (.slice none 0 0) (.slice none 0 0) 25)
            have hsv15 : v12.heap.size < (v12.alloc (.cells #[.slice none 0 0, .slice none 0 0] 25)).heap.size := by simp
            go_simp
            refine hK.out _ _ (KB.out _ BRn.out) (fun hHeld => ?_)
            clear hK K BR R2 G1
            have BR := BRn
            clear BRn
            have R2 := R2n
            clear R2n
            have G1 := G1n
            clear G1n
            have XA := XAn
            clear XAn
            try simp only [Act.put, List.setIfInBounds_toArray, List.set_cons_zero, List.set_cons_succ]
            generalize v12.alloc (.cells #[.slice none 0 0, .slice none 0 0] 25) = v15 at *
            refine wpAnyH_ready (rs := [9]) (by kernel_rfl) (by simp) ?_
            refine AllReadyH.cons rfl (fun K hK => ?_) AllReadyH.nil
            go_simp
            refine (HJ2.out v15 pa pc _ (below_next B2.out BR.out) (RP.out.below BR.out) R2.out.1 R2.out.2).mono ?_
            rintro e v16 ⟨ka, kc, rfl, hgv16, hbv16⟩
            have BRn := hide (below_next BR.out hbv16)
            have G2n := hide hgv16
            have hsv16 : v15.heap.size ≤ v16.heap.size := hbv16.size
            have XAn := hide (XA.out.below hbv16)
            have G1n := hide (G1.out.below hbv16)
            clear hgv16 hbv16
            go_wp2_with fail
            refine hK.out _ _ (KB.out _ BRn.out) (fun hHeld => ?_)
            clear hK K R2 BR XA G1
            have BR := BRn
            clear BRn
            have G2 := G2n
            clear G2n
            have XA := XAn
            clear XAn
            have G1 := G1n
            clear G1n
            try simp only [Act.put, List.setIfInBounds_toArray, List.set_cons_zero, List.set_cons_succ]
            refine tk 10 32 (.agg #[.slice ja S.length jc, .slice ka N.length kc]) hHeld rfl (by kernel_rfl) (by kernel_rfl) (by kernel_rfl) (fun _ _ _ h => h) (Or.inl ⟨by rfl, ?_⟩) ?_
            · rintro w ⟨q0, q1, q2⟩
              go_simp
            try simp only [Act.put, List.setIfInBounds_toArray, List.set_cons_zero, List.set_cons_succ]
            refine wpAnyH_ready (rs := [12]) (by kernel_rfl) (by simp) ?_
            refine AllReadyH.cons rfl (fun K hK => ?_) AllReadyH.nil
            obtain ⟨⟨z0, z1⟩, z2, z3⟩ := XA.out
            have KT := hide (Kept.two v16 (v12.heap.size) 0 1 (.slice ja S.length jc) (.slice ka N.length kc))
            have hszW := BR.out.size
            have BZ := hide (BR.out.trans (KT.out.below (B := W1.heap.size) hszW (fun x hx e => by omega)))
            have G1z := hide (G1.out.kept KT.out (fun x h1 h2 e => by omega))
            have G2z := hide (G2.out.kept KT.out (fun x h1 h2 e => by omega))
            have TZ : Hid (Two ((v16.setCell ⟨v12.heap.size, 0, none⟩ (.slice ja S.length jc)).setCell ⟨v12.heap.size, 1, none⟩ (.slice ka N.length kc)) (v12.heap.size) (.slice ja S.length jc) (.slice ka N.length kc)) := hide ⟨by rw [cell_set_other (by simp)]; exact cell_set_same z0, cell_set_same ((cell_set_other (by simp)).trans z1)⟩
            clear KT G1 G2 BR XA
            go_simp
            refine hK.out _ _ (KB.out _ BZ.out) (fun hHeld => ?_)
            clear hK K
            try simp only [Act.put, List.setIfInBounds_toArray, List.set_cons_zero, List.set_cons_succ]
            refine wpAnyH_done (by kernel_rfl) ?_ _
            go_wp2_with fail
            go_meet
            case rel => exact ⟨v12.heap.size, ja, jc, ka, kc, v12.heap.size, rfl, TZ, hide (G1z.out.low (by omega)), hide (by have := G2z.out.low (B' := v12.heap.size) (by omega); exact ⟨this.1, fun x hx => by have := this.2 x hx; simp; omega⟩), by omega, by simp; omega, BZ⟩
        · have BRn := hide (below_next BR.out (below_alloc v11 (.cells #[.slice none 0 0, .slice none 0 0] 25)))
          have R1n := hide (cell_next R1.out (below_alloc v11 (.cells #[.slice none 0 0, .slice none 0 0] 25)))
          have R2n := hide (R2.out.below (below_alloc v11 (.cells #[.slice none 0 0, .slice none 0 0] 25)))
          have XAn := hide (Box.new v11 (.slice none 0 0) (.slice none 0 0) 25)
          have hsv17 : v11.heap.size < (v11.alloc (.cells #[.slice none 0 0, .slice none 0 0] 25)).heap.size := by simp
          go_simp
          refine hK.out _ _ (KB.out _ BRn.out) (fun hHeld => ?_)
          clear hK K BR R1 R2
          have BR := BRn
          clear BRn
          have R1 := R1n
          clear R1n
          have R2 := R2n
          clear R2n
          have XA := XAn
          clear XAn
          try simp only [Act.put, List.setIfInBounds_toArray, List.set_cons_zero, List.set_cons_succ]
          generalize v11.alloc (.cells #[.slice none 0 0, .slice none 0 0] 25) = v17 at *
          refine wpAnyH_ready (rs := [3]) (by kernel_rfl) (by simp) ?_
          refine AllReadyH.cons rfl (fun K hK => ?_) AllReadyH.nil
          go_simp
          refine (HJ1.out v17 _ (below_next B2.out BR.out) R1.out).mono ?_
          rintro e v18 ⟨ja, jc, rfl, hgv18, hbv18⟩
          have BRn := hide (below_next BR.out hbv18)
          have G1n := hide hgv18
          have hsv18 : v17.heap.size ≤ v18.heap.size := hbv18.size
          have R2n := hide (R2.out.below hbv18)
          have XAn := hide (XA.out.below hbv18)
          clear hgv18 hbv18
          go_wp2_with fail
          refine hK.out _ _ (KB.out _ BRn.out) (fun hHeld => ?_)
          clear hK K R1 BR R2 XA
          have BR := BRn
          clear BRn
          have G1 := G1n
          clear G1n
          have R2 := R2n
          clear R2n
          have XA := XAn
          clear XAn
          try simp only [Act.put, List.setIfInBounds_toArray, List.set_cons_zero, List.set_cons_succ]
          refine wpAnyH_ready (rs := [9]) (by kernel_rfl) (by simp) ?_
          refine AllReadyH.cons rfl (fun K hK => ?_) AllReadyH.nil
          go_simp
          refine (HJ2.out v18 pa pc _ (below_next B2.out BR.out) (RP.out.below BR.out) R2.out.1 R2.out.2).mono ?_
          rintro e v19 ⟨ka, kc, rfl, hgv19, hbv19⟩
          have BRn := hide (below_next BR.out hbv19)
          have G2n := hide hgv19
          have hsv19 : v18.heap.size ≤ v19.heap.size := hbv19.size
          have XAn := hide (XA.out.below hbv19)
          have G1n := hide (G1.out.below hbv19)
          clear hgv19 hbv19
          go_wp2_with fail
          refine hK.out _ _ (KB.out _ BRn.out) (fun hHeld => ?_)
          clear hK K R2 BR XA G1
          have BR := BRn
          clear BRn
          have G2 := G2n
          clear G2n
          have XA := XAn
          clear XAn
          have G1 := G1n
          clear G1n
          try simp only [Act.put, List.setIfInBounds_toArray, List.set_cons_zero, List.set_cons_succ]
          refine tk 10 32 (.agg #[.slice ja S.length jc, .slice ka N.length kc]) hHeld rfl (by kernel_rfl) (by kernel_rfl) (by kernel_rfl) (fun _ _ _ h => h) (Or.inl ⟨by rfl, ?_⟩) ?_
          · rintro w ⟨q0, q1, q2⟩
            go_simp
          try simp only [Act.put, List.setIfInBounds_toArray, List.set_cons_zero, List.set_cons_succ]
          refine wpAnyH_ready (rs := [12]) (by kernel_rfl) (by simp) ?_
          refine AllReadyH.cons rfl (fun K hK => ?_) AllReadyH.nil
          obtain ⟨⟨z0, z1⟩, z2, z3⟩ := XA.out
          have KT := hide (Kept.two v19 (v11.heap.size) 0 1 (.slice ja S.length jc) (.slice ka N.length kc))
          have hszW := BR.out.size
          have BZ := hide (BR.out.trans (KT.out.below (B := W1.heap.size) hszW (fun x hx e => by omega)))
          have G1z := hide (G1.out.kept KT.out (fun x h1 h2 e => by omega))
          have G2z := hide (G2.out.kept KT.out (fun x h1 h2 e => by omega))
          have TZ : Hid (Two ((v19.setCell ⟨v11.heap.size, 0, none⟩ (.slice ja S.length jc)).setCell ⟨v11.heap.size, 1, none⟩ (.slice ka N.length kc)) (v11.heap.size) (.slice ja S.length jc) (.slice ka N.length kc)) := hide ⟨by rw [cell_set_other (by simp)]; exact cell_set_same z0, cell_set_same ((cell_set_other (by simp)).trans z1)⟩
          clear KT G1 G2 BR XA
          go_simp
          refine hK.out _ _ (KB.out _ BZ.out) (fun hHeld => ?_)
          clear hK K
          try simp only [Act.put, List.setIfInBounds_toArray, List.set_cons_zero, List.set_cons_succ]
          refine wpAnyH_done (by kernel_rfl) ?_ _
          go_wp2_with fail
          go_meet
          case rel => exact ⟨v11.heap.size, ja, jc, ka, kc, v18.heap.size, rfl, TZ, hide (G1z.out.low (by omega)), hide (by have := G2z.out.low (B' := v18.heap.size) (by omega); exact ⟨this.1, fun x hx => by have := this.2 x hx; simp; omega⟩), by omega, by simp; omega, BZ⟩
      · have BRn := hide (below_next BR.out (below_alloc v1 (.cells #[.slice none 0 0, .slice none 0 0] 25)))
        have R1n := hide (cell_next R1.out (below_alloc v1 (.cells #[.slice none 0 0, .slice none 0 0] 25)))
        have XAn := hide (Box.new v1 (.slice none 0 0) (.slice none 0 0) 25)
        have hsv20 : v1.heap.size < (v1.alloc (.cells #[.slice none 0 0, .slice none 0 0] 25)).heap.size := by simp
        go_simp
        refine hK.out _ _ (KB.out _ BRn.out) (fun hHeld => ?_)
        clear hK K BR R1
        have BR := BRn
        clear BRn
        have R1 := R1n
        clear R1n
        have XA := XAn
        clear XAn
        try simp only [Act.put, List.setIfInBounds_toArray, List.set_cons_zero, List.set_cons_succ]
        generalize v1.alloc (.cells #[.slice none 0 0, .slice none 0 0] 25) = v20 at *
        refine wpAnyH_ready (rs := [3, 8]) (by kernel_rfl) (by simp) ?_
        refine AllReadyH.cons rfl (fun K hK => ?_) (AllReadyH.cons rfl (fun K hK => ?_) AllReadyH.nil)
        · go_simp
          refine (HJ1.out v20 _ (below_next B2.out BR.out) R1.out).mono ?_
          rintro e v21 ⟨ja, jc, rfl, hgv21, hbv21⟩
          have BRn := hide (below_next BR.out hbv21)
          have G1n := hide hgv21
          have hsv21 : v20.heap.size ≤ v21.heap.size := hbv21.size
          have XAn := hide (XA.out.below hbv21)
          clear hgv21 hbv21
          go_wp2_with fail
          refine hK.out _ _ (KB.out _ BRn.out) (fun hHeld => ?_)
          clear hK K R1 BR XA
          have BR := BRn
          clear BRn
          have G1 := G1n
          clear G1n
          have XA := XAn
          clear XAn
          try simp only [Act.put, List.setIfInBounds_toArray, List.set_cons_zero, List.set_cons_succ]
          refine wpAnyH_ready (rs := [8]) (by kernel_rfl) (by simp) ?_
          refine AllReadyH.cons rfl (fun K hK => ?_) AllReadyH.nil
          have BRn := hide (below_next BR.out (below_alloc v21 (.cells #[.slice la L.length lc, .slice pa pk.length pc] 22)))
          have XAn := hide (XA.out.below (below_alloc v21 (.cells #[.slice la L.length lc, .slice pa pk.length pc] 22)))
          have G1n := hide (G1.out.below (below_alloc v21 (.cells #[.slice la L.length lc, .slice pa pk.length pc] 22)))
          have R2n := hide (Two.new v21 (.slice la L.length lc) (.slice pa pk.length pc) 22)
          have hsv22 : v21.heap.size < (v21.alloc (.cells #[.slice la L.length lc, .slice pa pk.length pc] 22)).heap.size := by simp
          go_simp
          refine hK.out _ _ (KB.out _ BRn.out) (fun hHeld => ?_)
          clear hK K BR XA G1
          have BR := BRn
          clear BRn
          have XA := XAn
          clear XAn
          have G1 := G1n
          clear G1n
          have R2 := R2n
          clear R2n
          try simp only [Act.put, List.setIfInBounds_toArray, List.set_cons_zero, List.set_cons_succ]
          generalize v21.alloc (.cells #[.slice la L.length lc, .slice pa pk.length pc] 22) = v22 at *
          refine wpAnyH_ready (rs := [9]) (by kernel_rfl) (by simp) ?_
          refine AllReadyH.cons rfl (fun K hK => ?_) AllReadyH.nil
          go_simp
          refine (HJ2.out v22 pa pc _ (below_next B2.out BR.out) (RP.out.below BR.out) R2.out.1 R2.out.2).mono ?_
          rintro e v23 ⟨ka, kc, rfl, hgv23, hbv23⟩
          have BRn := hide (below_next BR.out hbv23)
          have G2n := hide hgv23
          have hsv23 : v22.heap.size ≤ v23.heap.size := hbv23.size
          have XAn := hide (XA.out.below hbv23)
          have G1n := hide (G1.out.below hbv23)
          clear hgv23 hbv23
          go_wp2_with fail
          refine hK.out _ _ (KB.out _ BRn.out) (fun hHeld => ?_)
          clear hK K R2 BR XA G1
          have BR := BRn
          clear BRn
          have G2 := G2n
          clear G2n
          have XA := XAn
          clear XAn
          have G1 := G1n
          clear G1n
          try simp only [Act.put, List.setIfInBounds_toArray, List.set_cons_zero, List.set_cons_succ]
          refine tk 10 32 (.agg #[.slice ja S.length jc, .slice ka N.length kc]) hHeld rfl (by kernel_rfl) (by kernel_rfl) (by kernel_rfl) (fun _ _ _ h => h) (Or.inl ⟨by rfl, ?_⟩) ?_
          · rintro w ⟨q0, q1, q2⟩
            go_simp
          try simp only [Act.put, List.setIfInBounds_toArray, List.set_cons_zero, List.set_cons_succ]
          refine wpAnyH_ready (rs := [12]) (by kernel_rfl) (by simp) ?_
          refine AllReadyH.cons rfl (fun K hK => ?_) AllReadyH.nil
          obtain ⟨⟨z0, z1⟩, z2, z3⟩ := XA.out
          have KT := hide (Kept.two v23 (v1.heap.size) 0 1 (.slice ja S.length jc) (.slice ka N.length kc))
          have hszW := BR.out.size
          have BZ := hide (BR.out.trans (KT.out.below (B := W1.heap.size) hszW (fun x hx e => by omega)))
          have G1z := hide (G1.out.kept KT.out (fun x h1 h2 e => by omega))
          have G2z := hide (G2.out.kept KT.out (fun x h1 h2 e => by omega))
          have TZ : Hid (Two ((v23.setCell ⟨v1.heap.size, 0, none⟩ (.slice ja S.length jc)).setCell ⟨v1.heap.size, 1, none⟩ (.slice ka N.length kc)) (v1.heap.size) (.slice ja S.length jc) (.slice ka N.length kc)) := hide ⟨by rw [cell_set_other (by simp)]; exact cell_set_same z0, cell_set_same ((cell_set_other (by simp)).trans z1)⟩
          clear KT G1 G2 BR XA
          go_simp
          refine hK.out _ _ (KB.out _ BZ.out) (fun hHeld => ?_)
          clear hK K
          try simp only [Act.put, List.setIfInBounds_toArray, List.set_cons_zero, List.set_cons_succ]
          refine wpAnyH_done (by kernel_rfl) ?_ _
          go_wp2_with fail
          go_meet
          case rel => exact ⟨v1.heap.size, ja, jc, ka, kc, v21.heap.size, rfl, TZ, hide (G1z.out.low (by omega)), hide (by have := G2z.out.low (B' := v21.heap.size) (by omega); exact ⟨this.1, fun x hx => by have := this.2 x hx; simp; omega⟩), by omega, by simp; omega, BZ⟩
        · have BRn := hide (below_next BR.out (below_alloc v20 (.cells #[.slice la L.length lc, .slice pa pk.length pc] 22)))
          have R1n := hide (cell_next R1.out (below_alloc v20 (.cells #[.slice la L.length lc, .slice pa pk.length pc] 22)))
          have XAn := hide (XA.out.below (below_alloc v20 (.cells #[.slice la L.length lc, .slice pa pk.length pc] 22)))
          have R2n := hide (Two.new v20 (.slice la L.length lc) (.slice pa pk.length pc) 22)
          have hsv24 : v20.heap.size < (v20.alloc (.cells #[.slice la L.length lc, .slice pa pk.length pc] 22)).heap.size := by simp
          go_simp
          refine hK.out _ _ (KB.out _ BRn.out) (fun hHeld => ?_)
          clear hK K BR R1 XA
          have BR := BRn
          clear BRn
          have R1 := R1n
          clear R1n
          have XA := XAn
          clear XAn
          have R2 := R2n
          clear R2n
          try simp only [Act.put, List.setIfInBounds_toArray, List.set_cons_zero, List.set_cons_succ]
          generalize v20.alloc (.cells #[.slice la L.length lc, .slice pa pk.length pc] 22) = v24 at *
          refine wpAnyH_ready (rs := [3]) (by kernel_rfl) (by simp) ?_
          refine AllReadyH.cons rfl (fun K hK => ?_) AllReadyH.nil
          go_simp
          refine (HJ1.out v24 _ (below_next B2.out BR.out) R1.out).mono ?_
          rintro e v25 ⟨ja, jc, rfl, hgv25, hbv25⟩
          have BRn := hide (below_next BR.out hbv25)
          have G1n := hide hgv25
          have hsv25 : v24.heap.size ≤ v25.heap.size := hbv25.size
          have R2n := hide (R2.out.below hbv25)
          have XAn := hide (XA.out.below hbv25)
          clear hgv25 hbv25
          go_wp2_with fail
          refine hK.out _ _ (KB.out _ BRn.out) (fun hHeld => ?_)
          clear hK K R1 BR R2 XA
          have BR := BRn
          clear BRn
          have G1 := G1n
          clear G1n
          have R2 := R2n
          clear R2n
          have XA := XAn
          clear XAn
          try simp only [Act.put, List.setIfInBounds_toArray, List.set_cons_zero, List.set_cons_succ]
          refine wpAnyH_ready (rs := [9]) (by kernel_rfl) (by simp) ?_
          refine AllReadyH.cons rfl (fun K hK => ?_) AllReadyH.nil
          go_simp
          refine (HJ2.out v25 pa pc _ (below_next B2.out BR.out) (RP.out.below BR.out) R2.out.1 R2.out.2).mono ?_
          rintro e v26 ⟨ka, kc, rfl, hgv26, hbv26⟩
          have BRn := hide (below_next BR.out hbv26)
          have G2n := hide hgv26
          have hsv26 : v25.heap.size ≤ v26.heap.size := hbv26.size
          have XAn := hide (XA.out.below hbv26)
          have G1n := hide (G1.out.below hbv26)
          clear hgv26 hbv26
          go_wp2_with fail
          refine hK.out _ _ (KB.out _ BRn.out) (fun hHeld => ?_)
          clear hK K R2 BR XA G1
          have BR := BRn
          clear BRn
          have G2 := G2n
          clear G2n
          have XA := XAn
          clear XAn
          have G1 := G1n
          clear G1n
          try simp only [Act.put, List.setIfInBounds_toArray, List.set_cons_zero, List.set_cons_succ]
          refine tk 10 32 (.agg #[.slice ja S.length jc, .slice ka N.length kc]) hHeld rfl (by kernel_rfl) (by kernel_rfl) (by kernel_rfl) (fun _ _ _ h => h) (Or.inl ⟨by rfl, ?_⟩) ?_
          · rintro w ⟨q0, q1, q2⟩
            go_simp
          try simp only [Act.put, List.setIfInBounds_toArray, List.set_cons_zero, List.set_cons_succ]
          refine wpAnyH_ready (rs := [12]) (by kernel_rfl) (by simp) ?_
          refine AllReadyH.cons rfl (fun K hK => ?_) AllReadyH.nil
          obtain ⟨⟨z0, z1⟩, z2, z3⟩ := XA.out
          have KT := hide (Kept.two v26 (v1.heap.size) 0 1 (.slice ja S.length jc) (.slice ka N.length kc))
          have hszW := BR.out.size
          have BZ := hide (BR.out.trans (KT.out.below (B := W1.heap.size) hszW (fun x hx e => by omega)))
          have G1z := hide (G1.out.kept KT.out (fun x h1 h2 e => by omega))
          have G2z := hide (G2.out.kept KT.out (fun x h1 h2 e => by omega))
          have TZ : Hid (Two ((v26.setCell ⟨v1.heap.size, 0, none⟩ (.slice ja S.length jc)).setCell ⟨v1.heap.size, 1, none⟩ (.slice ka N.length kc)) (v1.heap.size) (.slice ja S.length jc) (.slice ka N.length kc)) := hide ⟨by rw [cell_set_other (by simp)]; exact cell_set_same z0, cell_set_same ((cell_set_other (by simp)).trans z1)⟩
          clear KT G1 G2 BR XA
          go_simp
          refine hK.out _ _ (KB.out _ BZ.out) (fun hHeld => ?_)
          clear hK K
          try simp only [Act.put, List.setIfInBounds_toArray, List.set_cons_zero, List.set_cons_succ]
          refine wpAnyH_done (by kernel_rfl) ?_ _
          go_wp2_with fail
          go_meet
          case rel => exact ⟨v1.heap.size, ja, jc, ka, kc, v25.heap.size, rfl, TZ, hide (G1z.out.low (by omega)), hide (by have := G2z.out.low (B' := v25.heap.size) (by omega); exact ⟨this.1, fun x hx => by have := this.2 x hx; simp; omega⟩), by omega, by simp; omega, BZ⟩
    · have BRn := hide (below_next BR.out (below_alloc D (.cells #[.slice la L.length lc, .slice pa pk.length pc] 22)))
      have R2n := hide (Two.new D (.slice la L.length lc) (.slice pa pk.length pc) 22)
      have hsv27 : D.heap.size < (D.alloc (.cells #[.slice la L.length lc, .slice pa pk.length pc] 22)).heap.size := by simp
      go_simp
      refine hK.out _ _ (KB.out _ BRn.out) (fun hHeld => ?_)
      clear hK K BR
      have BR := BRn
      clear BRn
      have R2 := R2n
      clear R2n
      try simp only [Act.put, List.setIfInBounds_toArray, List.set_cons_zero, List.set_cons_succ]
      generalize D.alloc (.cells #[.slice la L.length lc, .slice pa pk.length pc] 22) = v27 at *
      refine wpAnyH_ready (rs := [2, 11]) (by kernel_rfl) (by simp) ?_
      refine AllReadyH.cons rfl (fun K hK => ?_) (AllReadyH.cons rfl (fun K hK => ?_) AllReadyH.nil)
      · have BRn := hide (below_next BR.out (below_alloc v27 (.cells #[.slice sa S.length sc] 22)))
        have R2n := hide (R2.out.below (below_alloc v27 (.cells #[.slice sa S.length sc] 22)))
        have R1n := hide (show (v27.alloc (.cells #[.slice sa S.length sc] 22)).cell? ⟨v27.heap.size, 0, none⟩ = some (.slice sa S.length sc) by simp)
        have hsv28 : v27.heap.size < (v27.alloc (.cells #[.slice sa S.length sc] 22)).heap.size := by simp
        go_simp
        refine hK.out _ _ (KB.out _ BRn.out) (fun hHeld => ?_)
        clear hK K BR R2
        have BR := BRn
        clear BRn
        have R2 := R2n
        clear R2n
        have R1 := R1n
        clear R1n
        try simp only [Act.put, List.setIfInBounds_toArray, List.set_cons_zero, List.set_cons_succ]
        generalize v27.alloc (.cells #[.slice sa S.length sc] 22) = v28 at *
        refine wpAnyH_ready (rs := [3, 11]) (by kernel_rfl) (by simp) ?_
        refine AllReadyH.cons rfl (fun K hK => ?_) (AllReadyH.cons rfl (fun K hK => ?_) AllReadyH.nil)
        · go_simp
          refine (HJ1.out v28 _ (below_next B2.out BR.out) R1.out).mono ?_
          rintro e v29 ⟨ja, jc, rfl, hgv29, hbv29⟩
          have BRn := hide (below_next BR.out hbv29)
          have G1n := hide hgv29
          have hsv29 : v28.heap.size ≤ v29.heap.size := hbv29.size
          have R2n := hide (R2.out.below hbv29)
          clear hgv29 hbv29
          go_wp2_with fail
          refine hK.out _ _ (KB.out _ BRn.out) (fun hHeld => ?_)
          clear hK K R1 BR R2
          have BR := BRn
          clear BRn
          have G1 := G1n
          clear G1n
          have R2 := R2n
          clear R2n
          try simp only [Act.put, List.setIfInBounds_toArray, List.set_cons_zero, List.set_cons_succ]
          refine wpAnyH_ready (rs := [9, 11]) (by kernel_rfl) (by simp) ?_
          refine AllReadyH.cons rfl (fun K hK => ?_) (AllReadyH.cons rfl (fun K hK => ?_) AllReadyH.nil)
          · go_simp
            refine (HJ2.out v29 pa pc _ (below_next B2.out BR.out) (RP.out.below BR.out) R2.out.1 R2.out.2).mono ?_
            rintro e v30 ⟨ka, kc, rfl, hgv30, hbv30⟩
            have BRn := hide (below_next BR.out hbv30)
            have G2n := hide hgv30
            have hsv30 : v29.heap.size ≤ v30.heap.size := hbv30.size
            have G1n := hide (G1.out.below hbv30)
            clear hgv30 hbv30
            go_wp2_with fail
            refine hK.out _ _ (KB.out _ BRn.out) (fun hHeld => ?_)
            clear hK K R2 BR G1
            have BR := BRn
            clear BRn
            have G2 := G2n
            clear G2n
            have G1 := G1n
            clear G1n
            try simp only [Act.put, List.setIfInBounds_toArray, List.set_cons_zero, List.set_cons_succ]
            refine tk 10 32 (.agg #[.slice ja S.length jc, .slice ka N.length kc]) hHeld rfl (by kernel_rfl) (by kernel_rfl) (by kernel_rfl) (fun _ _ _ h => h) (Or.inl ⟨by rfl, ?_⟩) ?_
            · rintro w ⟨q0, q1, q2⟩
              go_simp
            try simp only [Act.put, List.setIfInBounds_toArray, List.set_cons_zero, List.set_cons_succ]
            refine wpAnyH_ready (rs := [11]) (by kernel_rfl) (by simp) ?_
            refine AllReadyH.cons rfl (fun K hK => ?_) AllReadyH.nil
            have BRn := hide (below_next BR.out (below_alloc v30 (.cells #[.slice none 0 0, .slice none 0 0] 25)))
            have G1n := hide (G1.out.below (below_alloc v30 (.cells #[.slice none 0 0, .slice none 0 0] 25)))
            have G2n := hide (G2.out.below (below_alloc v30 (.cells #[.slice none 0 0, .slice none 0 0] 25)))
            have XAn := hide (Box.new v30 (.slice none 0 0) (.slice none 0 0) 25)
            have hsv31 : v30.heap.size < (v30.alloc (.cells #[.slice none 0 0, .slice none 0 0] 25)).heap.size := by simp
            go_simp
            refine hK.out _ _ (KB.out _ BRn.out) (fun hHeld => ?_)
            clear hK K BR G1 G2
            have BR := BRn
            clear BRn
            have G1 := G1n
            clear G1n
            have G2 := G2n
            clear G2n
            have XA := XAn
            clear XAn
            try simp only [Act.put, List.setIfInBounds_toArray, List.set_cons_zero, List.set_cons_succ]
            generalize v30.alloc (.cells #[.slice none 0 0, .slice none 0 0] 25) = v31 at *
            refine wpAnyH_ready (rs := [12]) (by kernel_rfl) (by simp) ?_
            refine AllReadyH.cons rfl (fun K hK => ?_) AllReadyH.nil
            obtain ⟨⟨z0, z1⟩, z2, z3⟩ := XA.out
            have KT := hide (Kept.two v31 (v30.heap.size) 0 1 (.slice ja S.length jc) (.slice ka N.length kc))
            have hszW := BR.out.size
            have BZ := hide (BR.out.trans (KT.out.below (B := W1.heap.size) hszW (fun x hx e => by omega)))
            have G1z := hide (G1.out.kept KT.out (fun x h1 h2 e => by omega))
            have G2z := hide (G2.out.kept KT.out (fun x h1 h2 e => by omega))
            have TZ : Hid (Two ((v31.setCell ⟨v30.heap.size, 0, none⟩ (.slice ja S.length jc)).setCell ⟨v30.heap.size, 1, none⟩ (.slice ka N.length kc)) (v30.heap.size) (.slice ja S.length jc) (.slice ka N.length kc)) := hide ⟨by rw [cell_set_other (by simp)]; exact cell_set_same z0, cell_set_same ((cell_set_other (by simp)).trans z1)⟩
            clear KT G1 G2 BR XA
            go_simp
            refine hK.out _ _ (KB.out _ BZ.out) (fun hHeld => ?_)
            clear hK K
            try simp only [Act.put, List.setIfInBounds_toArray, List.set_cons_zero, List.set_cons_succ]
            refine wpAnyH_done (by kernel_rfl) ?_ _
            go_wp2_with fail
            go_meet
            case rel => exact ⟨v30.heap.size, ja, jc, ka, kc, v29.heap.size, rfl, TZ, hide (G1z.out.low (by omega)), hide (by have := G2z.out.low (B' := v29.heap.size) (by omega); exact ⟨this.1, fun x hx => by have := this.2 x hx; simp; omega⟩), by omega, by simp; omega, BZ⟩
          · have BRn := hide (below_next BR.out (below_alloc v29 (.cells #[.slice none 0 0, .slice none 0 0] 25)))
            have R2n := hide (R2.out.below (below_alloc v29 (.cells #[.slice none 0 0, .slice none 0 0] 25)))
            have G1n := hide (G1.out.below (below_alloc v29 (.cells #[.slice none 0 0, .slice none 0 0] 25)))
            have XAn := hide (Box.new v29 (.slice none 0 0) (.slice none 0 0) 25)
            have hsv32 : v29.heap.size < (v29.alloc (.cells #[.slice none 0 0, .slice none 0 0] 25)).heap.size := by simp
            go_simp
            refine hK.out _ _ (KB.out _ BRn.out) (fun hHeld => ?_)
            clear hK K BR R2 G1
            have BR := BRn
            clear BRn
            have R2 := R2n
            clear R2n
            have G1 := G1n
            clear G1n
            have XA := XAn
            clear XAn
            try simp only [Act.put, List.setIfInBounds_toArray, List.set_cons_zero, List.set_cons_succ]
            generalize v29.alloc (.cells #[.slice none 0 0, .slice none 0 0] 25) = v32 at *
            refine wpAnyH_ready (rs := [9]) (by kernel_rfl) (by simp) ?_
            refine AllReadyH.cons rfl (fun K hK => ?_) AllReadyH.nil
            go_simp
            refine (HJ2.out v32 pa pc _ (below_next B2.out BR.out) (RP.out.below BR.out) R2.out.1 R2.out.2).mono ?_
            rintro e v33 ⟨ka, kc, rfl, hgv33, hbv33⟩
            have BRn := hide (below_next BR.out hbv33)
            have G2n := hide hgv33
            have hsv33 : v32.heap.size ≤ v33.heap.size := hbv33.size
            have XAn := hide (XA.out.below hbv33)
            have G1n := hide (G1.out.below hbv33)
            clear hgv33 hbv33
            go_wp2_with fail
            refine hK.out _ _ (KB.out _ BRn.out) (fun hHeld => ?_)
            clear hK K R2 BR XA G1
            have BR := BRn
            clear BRn
            have G2 := G2n
            clear G2n
            have XA := XAn
            clear XAn
            have G1 := G1n
            clear G1n
            try simp only [Act.put, List.setIfInBounds_toArray, List.set_cons_zero, List.set_cons_succ]
            refine tk 10 32 (.agg #[.slice ja S.length jc, .slice ka N.length kc]) hHeld rfl (by kernel_rfl) (by kernel_rfl) (by kernel_rfl) (fun _ _ _ h => h) (Or.inl ⟨by rfl, ?_⟩) ?_
            · rintro w ⟨q0, q1, q2⟩
              go_simp
            try simp only [Act.put, List.setIfInBounds_toArray, List.set_cons_zero, List.set_cons_succ]
            refine wpAnyH_ready (rs := [12]) (by kernel_rfl) (by simp) ?_
            refine AllReadyH.cons rfl (fun K hK => ?_) AllReadyH.nil
            obtain ⟨⟨z0, z1⟩, z2, z3⟩ := XA.out
            have KT := hide (Kept.two v33 (v29.heap.size) 0 1 (.slice ja S.length jc) (.slice ka N.length kc))
            have hszW := BR.out.size
            have BZ := hide (BR.out.trans (KT.out.below (B := W1.heap.size) hszW (fun x hx e => by omega)))
            have G1z := hide (G1.out.kept KT.out (fun x h1 h2 e => by omega))
            have G2z := hide (G2.out.kept KT.out (fun x h1 h2 e => by omega))
            have TZ : Hid (Two ((v33.setCell ⟨v29.heap.size, 0, none⟩ (.slice ja S.length jc)).setCell ⟨v29.heap.size, 1, none⟩ (.slice ka N.length kc)) (v29.heap.size) (.slice ja S.length jc) (.slice ka N.length kc)) := hide ⟨by rw [cell_set_other (by simp)]; exact cell_set_same z0, cell_set_same ((cell_set_other (by simp)).trans z1)⟩
            clear KT G1 G2 BR XA
            go_simp
            refine hK.out _ _ (KB.out _ BZ.out) (fun hHeld => ?_)
            clear hK K
            try simp only [Act.put, List.setIfInBounds_toArray, List.set_cons_zero, List.set_cons_succ]
            refine wpAnyH_done (by kernel_rfl) ?_ _
            go_wp2_with fail
            go_meet
            case rel => exact ⟨v29.heap.size, ja, jc, ka, kc, v29.heap.size, rfl, TZ, hide (G1z.out.low (by omega)), hide (by have := G2z.out.low (B' := v29.heap.size) (by omega); exact ⟨this.1, fun x hx => by have := this.2 x hx; simp; omega⟩), by omega, by simp; omega, BZ⟩
        · have BRn := hide (below_next BR.out (below_alloc v28 (.cells #[.slice none 0 0, .slice none 0 0] 25)))
          have R1n := hide (cell_next R1.out (below_alloc v28 (.cells #[.slice none 0 0, .slice none 0 0] 25)))
          have R2n := hide (R2.out.below (below_alloc v28 (.cells #[.slice none 0 0, .slice none 0 0] 25)))
          have XAn := hide (Box.new v28 (.slice none 0 0) (.slice none 0 0) 25)
          have hsv34 : v28.heap.size < (v28.alloc (.cells #[.slice none 0 0, .slice none 0 0] 25)).heap.size := by simp
          go_simp
          refine hK.out _ _ (KB.out _ BRn.out) (fun hHeld => ?_)
          clear hK K BR R1 R2
          have BR := BRn
          clear BRn
          have R1 := R1n
          clear R1n
          have R2 := R2n
          clear R2n
          have XA := XAn
          clear XAn
          try simp only [Act.put, List.setIfInBounds_toArray, List.set_cons_zero, List.set_cons_succ]
          generalize v28.alloc (.cells #[.slice none 0 0, .slice none 0 0] 25) = v34 at *
          refine wpAnyH_ready (rs := [3]) (by kernel_rfl) (by simp) ?_
          refine AllReadyH.cons rfl (fun K hK => ?_) AllReadyH.nil
          go_simp
          refine (HJ1.out v34 _ (below_next B2.out BR.out) R1.out).mono ?_
          rintro e v35 ⟨ja, jc, rfl, hgv35, hbv35⟩
          have BRn := hide (below_next BR.out hbv35)
          have G1n := hide hgv35
          have hsv35 : v34.heap.size ≤ v35.heap.size := hbv35.size
          have R2n := hide (R2.out.below hbv35)
          have XAn := hide (XA.out.below hbv35)
          clear hgv35 hbv35
          go_wp2_with fail
          refine hK.out _ _ (KB.out _ BRn.out) (fun hHeld => ?_)
          clear hK K R1 BR R2 XA
          have BR := BRn
          clear BRn
          have G1 := G1n
          clear G1n
          have R2 := R2n
          clear R2n
          have XA := XAn
          clear XAn
          try simp only [Act.put, List.setIfInBounds_toArray, List.set_cons_zero, List.set_cons_succ]
          refine wpAnyH_ready (rs := [9]) (by kernel_rfl) (by simp) ?_
          refine AllReadyH.cons rfl (fun K hK => ?_) AllReadyH.nil
          go_simp
          refine (HJ2.out v35 pa pc _ (below_next B2.out BR.out) (RP.out.below BR.out) R2.out.1 R2.out.2).mono ?_
          rintro e v36 ⟨ka, kc, rfl, hgv36, hbv36⟩
          have BRn := hide (below_next BR.out hbv36)
          have G2n := hide hgv36
          have hsv36 : v35.heap.size ≤ v36.heap.size := hbv36.size
          have XAn := hide (XA.out.below hbv36)
          have G1n := hide (G1.out.below hbv36)
          clear hgv36 hbv36
          go_wp2_with fail
          refine hK.out _ _ (KB.out _ BRn.out) (fun hHeld => ?_)
          clear hK K R2 BR XA G1
          have BR := BRn
          clear BRn
          have G2 := G2n
          clear G2n
          have XA := XAn
          clear XAn
          have G1 := G1n
          clear G1n
          try simp only [Act.put, List.setIfInBounds_toArray, List.set_cons_zero, List.set_cons_succ]
          refine tk 10 32 (.agg #[.slice ja S.length jc, .slice ka N.length kc]) hHeld rfl (by kernel_rfl) (by kernel_rfl) (by kernel_rfl) (fun _ _ _ h => h) (Or.inl ⟨by rfl, ?_⟩) ?_
          · rintro w ⟨q0, q1, q2⟩
            go_simp
          try simp only [Act.put, List.setIfInBounds_toArray, List.set_cons_zero, List.set_cons_succ]
          refine wpAnyH_ready (rs := [12]) (by kernel_rfl) (by simp) ?_
          refine AllReadyH.cons rfl (fun K hK => ?_) AllReadyH.nil
          obtain ⟨⟨z0, z1⟩, z2, z3⟩ := XA.out
          have KT := hide (Kept.two v36 (v28.heap.size) 0 1 (.slice ja S.length jc) (.slice ka N.length kc))
          have hszW := BR.out.size
          have BZ := hide (BR.out.trans (KT.out.below (B := W1.heap.size) hszW (fun x hx e => by omega)))
          have G1z := hide (G1.out.kept KT.out (fun x h1 h2 e => by omega))
          have G2z := hide (G2.out.kept KT.out (fun x h1 h2 e => by omega))
          have TZ : Hid (Two ((v36.setCell ⟨v28.heap.size, 0, none⟩ (.slice ja S.length jc)).setCell ⟨v28.heap.size, 1, none⟩ (.slice ka N.length kc)) (v28.heap.size) (.slice ja S.length jc) (.slice ka N.length kc)) := hide ⟨by rw [cell_set_other (by simp)]; exact cell_set_same z0, cell_set_same ((cell_set_other (by simp)).trans z1)⟩
          clear KT G1 G2 BR XA
          go_simp
          refine hK.out _ _ (KB.out _ BZ.out) (fun hHeld => ?_)
          clear hK K
          try simp only [Act.put, List.setIfInBounds_toArray, List.set_cons_zero, List.set_cons_succ]
          refine wpAnyH_done (by kernel_rfl) ?_ _
          go_wp2_with fail
          go_meet
          case rel => exact ⟨v28.heap.size, ja, jc, ka, kc, v35.heap.size, rfl, TZ, hide (G1z.out.low (by omega)), hide (by have := G2z.out.low (B' := v35.heap.size) (by omega); exact ⟨this.1, fun x hx => by have := this.2 x hx; simp; omega⟩), by omega, by simp; omega, BZ⟩
      · have BRn := hide (below_next BR.out (below_alloc v27 (.cells #[.slice none 0 0, .slice none 0 0] 25)))
        have R2n := hide (R2.out.below (below_alloc v27 (.cells #[.slice none 0 0, .slice none 0 0] 25)))
        have XAn := hide (Box.new v27 (.slice none 0 0) (.slice none 0 0) 25)
        have hsv37 : v27.heap.size < (v27.alloc (.cells #[.slice none 0 0, .slice none 0 0] 25)).heap.size := by simp
        go_simp
        refine hK.out _ _ (KB.out _ BRn.out) (fun hHeld => ?_)
        clear hK K BR R2
        have BR := BRn
        clear BRn
        have R2 := R2n
        clear R2n
        have XA := XAn
        clear XAn
        try simp only [Act.put, List.setIfInBounds_toArray, List.set_cons_zero, List.set_cons_succ]
        generalize v27.alloc (.cells #[.slice none 0 0, .slice none 0 0] 25) = v37 at *
        refine wpAnyH_ready (rs := [2]) (by kernel_rfl) (by simp) ?_
        refine AllReadyH.cons rfl (fun K hK => ?_) AllReadyH.nil
        have BRn := hide (below_next BR.out (below_alloc v37 (.cells #[.slice sa S.length sc] 22)))
        have R2n := hide (R2.out.below (below_alloc v37 (.cells #[.slice sa S.length sc] 22)))
        have XAn := hide (XA.out.below (below_alloc v37 (.cells #[.slice sa S.length sc] 22)))
        have R1n := hide (show (v37.alloc (.cells #[.slice sa S.length sc] 22)).cell? ⟨v37.heap.size, 0, none⟩ = some (.slice sa S.length sc) by simp)
        have hsv38 : v37.heap.size < (v37.alloc (.cells #[.slice sa S.length sc] 22)).heap.size := by simp
        go_simp
        refine hK.out _ _ (KB.out _ BRn.out) (fun hHeld => ?_)
        clear hK K BR R2 XA
        have BR := BRn
        clear BRn
        have R2 := R2n
        clear R2n
        have XA := XAn
        clear XAn
        have R1 := R1n
        clear R1n
        try simp only [Act.put, List.setIfInBounds_toArray, List.set_cons_zero, List.set_cons_succ]
        generalize v37.alloc (.cells #[.slice sa S.length sc] 22) = v38 at *
        refine wpAnyH_ready (rs := [3]) (by kernel_rfl) (by simp) ?_
        refine AllReadyH.cons rfl (fun K hK => ?_) AllReadyH.nil
        go_simp
        refine (HJ1.out v38 _ (below_next B2.out BR.out) R1.out).mono ?_
        rintro e v39 ⟨ja, jc, rfl, hgv39, hbv39⟩
        have BRn := hide (below_next BR.out hbv39)
        have G1n := hide hgv39
        have hsv39 : v38.heap.size ≤ v39.heap.size := hbv39.size
        have R2n := hide (R2.out.below hbv39)
        have XAn := hide (XA.out.below hbv39)
        clear hgv39 hbv39
        go_wp2_with fail
        refine hK.out _ _ (KB.out _ BRn.out) (fun hHeld => ?_)
        clear hK K R1 BR R2 XA
        have BR := BRn
        clear BRn
        have G1 := G1n
        clear G1n
        have R2 := R2n
        clear R2n
        have XA := XAn
        clear XAn
        try simp only [Act.put, List.setIfInBounds_toArray, List.set_cons_zero, List.set_cons_succ]
        refine wpAnyH_ready (rs := [9]) (by kernel_rfl) (by simp) ?_
        refine AllReadyH.cons rfl (fun K hK => ?_) AllReadyH.nil
        go_simp
        refine (HJ2.out v39 pa pc _ (below_next B2.out BR.out) (RP.out.below BR.out) R2.out.1 R2.out.2).mono ?_
        rintro e v40 ⟨ka, kc, rfl, hgv40, hbv40⟩
        have BRn := hide (below_next BR.out hbv40)
        have G2n := hide hgv40
        have hsv40 : v39.heap.size ≤ v40.heap.size := hbv40.size
        have XAn := hide (XA.out.below hbv40)
        have G1n := hide (G1.out.below hbv40)
        clear hgv40 hbv40
        go_wp2_with fail
        refine hK.out _ _ (KB.out _ BRn.out) (fun hHeld => ?_)
        clear hK K R2 BR XA G1
        have BR := BRn
        clear BRn
        have G2 := G2n
        clear G2n
        have XA := XAn
        clear XAn
        have G1 := G1n
        clear G1n
        try simp only [Act.put, List.setIfInBounds_toArray, List.set_cons_zero, List.set_cons_succ]
        refine tk 10 32 (.agg #[.slice ja S.length jc, .slice ka N.length kc]) hHeld rfl (by kernel_rfl) (by kernel_rfl) (by kernel_rfl) (fun _ _ _ h => h) (Or.inl ⟨by rfl, ?_⟩) ?_
        · rintro w ⟨q0, q1, q2⟩
          go_simp
        try simp only [Act.put, List.setIfInBounds_toArray, List.set_cons_zero, List.set_cons_succ]
        refine wpAnyH_ready (rs := [12]) (by kernel_rfl) (by simp) ?_
        refine AllReadyH.cons rfl (fun K hK => ?_) AllReadyH.nil
        obtain ⟨⟨z0, z1⟩, z2, z3⟩ := XA.out
        have KT := hide (Kept.two v40 (v27.heap.size) 0 1 (.slice ja S.length jc) (.slice ka N.length kc))
        have hszW := BR.out.size
        have BZ := hide (BR.out.trans (KT.out.below (B := W1.heap.size) hszW (fun x hx e => by omega)))
        have G1z := hide (G1.out.kept KT.out (fun x h1 h2 e => by omega))
        have G2z := hide (G2.out.kept KT.out (fun x h1 h2 e => by omega))
        have TZ : Hid (Two ((v40.setCell ⟨v27.heap.size, 0, none⟩ (.slice ja S.length jc)).setCell ⟨v27.heap.size, 1, none⟩ (.slice ka N.length kc)) (v27.heap.size) (.slice ja S.length jc) (.slice ka N.length kc)) := hide ⟨by rw [cell_set_other (by simp)]; exact cell_set_same z0, cell_set_same ((cell_set_other (by simp)).trans z1)⟩
        clear KT G1 G2 BR XA
        go_simp
        refine hK.out _ _ (KB.out _ BZ.out) (fun hHeld => ?_)
        clear hK K
        try simp only [Act.put, List.setIfInBounds_toArray, List.set_cons_zero, List.set_cons_succ]
        refine wpAnyH_done (by kernel_rfl) ?_ _
        go_wp2_with fail
        go_meet
        case rel => exact ⟨v27.heap.size, ja, jc, ka, kc, v39.heap.size, rfl, TZ, hide (G1z.out.low (by omega)), hide (by have := G2z.out.low (B' := v39.heap.size) (by omega); exact ⟨this.1, fun x hx => by have := this.2 x hx; simp; omega⟩), by omega, by simp; omega, BZ⟩
    · have BRn := hide (below_next BR.out (below_alloc D (.cells #[.slice none 0 0, .slice none 0 0] 25)))
      have XAn := hide (Box.new D (.slice none 0 0) (.slice none 0 0) 25)
      have hsv41 : D.heap.size < (D.alloc (.cells #[.slice none 0 0, .slice none 0 0] 25)).heap.size := by simp
      go_simp
      refine hK.out _ _ (KB.out _ BRn.out) (fun hHeld => ?_)
      clear hK K BR
      have BR := BRn
      clear BRn
      have XA := XAn
      clear XAn
      try simp only [Act.put, List.setIfInBounds_toArray, List.set_cons_zero, List.set_cons_succ]
      generalize D.alloc (.cells #[.slice none 0 0, .slice none 0 0] 25) = v41 at *
      refine wpAnyH_ready (rs := [2, 8]) (by kernel_rfl) (by simp) ?_
      refine AllReadyH.cons rfl (fun K hK => ?_) (AllReadyH.cons rfl (fun K hK => ?_) AllReadyH.nil)
      · have BRn := hide (below_next BR.out (below_alloc v41 (.cells #[.slice sa S.length sc] 22)))
        have XAn := hide (XA.out.below (below_alloc v41 (.cells #[.slice sa S.length sc] 22)))
        have R1n := hide (show (v41.alloc (.cells #[.slice sa S.length sc] 22)).cell? ⟨v41.heap.size, 0, none⟩ = some (.slice sa S.length sc) by simp)
        have hsv42 : v41.heap.size < (v41.alloc (.cells #[.slice sa S.length sc] 22)).heap.size := by simp
        go_simp
        refine hK.out _ _ (KB.out _ BRn.out) (fun hHeld => ?_)
        clear hK K BR XA
        have BR := BRn
        clear BRn
        have XA := XAn
        clear XAn
        have R1 := R1n
        clear R1n
        try simp only [Act.put, List.setIfInBounds_toArray, List.set_cons_zero, List.set_cons_succ]
        generalize v41.alloc (.cells #[.slice sa S.length sc] 22) = v42 at *
        refine wpAnyH_ready (rs := [3, 8]) (by kernel_rfl) (by simp) ?_
        refine AllReadyH.cons rfl (fun K hK => ?_) (AllReadyH.cons rfl (fun K hK => ?_) AllReadyH.nil)
        · go_simp
          refine (HJ1.out v42 _ (below_next B2.out BR.out) R1.out).mono ?_
          rintro e v43 ⟨ja, jc, rfl, hgv43, hbv43⟩
          have BRn := hide (below_next BR.out hbv43)
          have G1n := hide hgv43
          have hsv43 : v42.heap.size ≤ v43.heap.size := hbv43.size
          have XAn := hide (XA.out.below hbv43)
          clear hgv43 hbv43
          go_wp2_with fail
          refine hK.out _ _ (KB.out _ BRn.out) (fun hHeld => ?_)
          clear hK K R1 BR XA
          have BR := BRn
          clear BRn
          have G1 := G1n
          clear G1n
          have XA := XAn
          clear XAn
          try simp only [Act.put, List.setIfInBounds_toArray, List.set_cons_zero, List.set_cons_succ]
          refine wpAnyH_ready (rs := [8]) (by kernel_rfl) (by simp) ?_
          refine AllReadyH.cons rfl (fun K hK => ?_) AllReadyH.nil
          have BRn := hide (below_next BR.out (below_alloc v43 (.cells #[.slice la L.length lc, .slice pa pk.length pc] 22)))
          have XAn := hide (XA.out.below (below_alloc v43 (.cells #[.slice la L.length lc, .slice pa pk.length pc] 22)))
          have G1n := hide (G1.out.below (below_alloc v43 (.cells #[.slice la L.length lc, .slice pa pk.length pc] 22)))
          have R2n := hide (Two.new v43 (.slice la L.length lc) (.slice pa pk.length pc) 22)
          have hsv44 : v43.heap.size < (v43.alloc (.cells #[.slice la L.length lc, .slice pa pk.length pc] 22)).heap.size := by simp
          go_simp
          refine hK.out _ _ (KB.out _ BRn.out) (fun hHeld => ?_)
          clear hK K BR XA G1
          have BR := BRn
          clear BRn
          have XA := XAn
          clear XAn
          have G1 := G1n
          clear G1n
          have R2 := R2n
          clear R2n
          try simp only [Act.put, List.setIfInBounds_toArray, List.set_cons_zero, List.set_cons_succ]
          generalize v43.alloc (.cells #[.slice la L.length lc, .slice pa pk.length pc] 22) = v44 at *
          refine wpAnyH_ready (rs := [9]) (by kernel_rfl) (by simp) ?_
          refine AllReadyH.cons rfl (fun K hK => ?_) AllReadyH.nil
          go_simp
          refine (HJ2.out v44 pa pc _ (below_next B2.out BR.out) (RP.out.below BR.out) R2.out.1 R2.out.2).mono ?_
          rintro e v45 ⟨ka, kc, rfl, hgv45, hbv45⟩
          have BRn := hide (below_next BR.out hbv45)
          have G2n := hide hgv45
          have hsv45 : v44.heap.size ≤ v45.heap.size := hbv45.size
          have XAn := hide (XA.out.below hbv45)
          have G1n := hide (G1.out.below hbv45)
          clear hgv45 hbv45
          go_wp2_with fail
          refine hK.out _ _ (KB.out _ BRn.out) (fun hHeld => ?_)
          clear hK K R2 BR XA G1
          have BR := BRn
          clear BRn
          have G2 := G2n
          clear G2n
          have XA := XAn
          clear XAn
          have G1 := G1n
          clear G1n
          try simp only [Act.put, List.setIfInBounds_toArray, List.set_cons_zero, List.set_cons_succ]
          refine tk 10 32 (.agg #[.slice ja S.length jc, .slice ka N.length kc]) hHeld rfl (by kernel_rfl) (by kernel_rfl) (by kernel_rfl) (fun _ _ _ h => h) (Or.inl ⟨by rfl, ?_⟩) ?_
          · rintro w ⟨q0, q1, q2⟩
            go_simp
          try simp only [Act.put, List.setIfInBounds_toArray, List.set_cons_zero, List.set_cons_succ]
          refine wpAnyH_ready (rs := [12]) (by kernel_rfl) (by simp) ?_
          refine AllReadyH.cons rfl (fun K hK => ?_) AllReadyH.nil
          obtain ⟨⟨z0, z1⟩, z2, z3⟩ := XA.out
          have KT := hide (Kept.two v45 (D.heap.size) 0 1 (.slice ja S.length jc) (.slice ka N.length kc))
          have hszW := BR.out.size
          have BZ := hide (BR.out.trans (KT.out.below (B := W1.heap.size) hszW (fun x hx e => by omega)))
          have G1z := hide (G1.out.kept KT.out (fun x h1 h2 e => by omega))
          have G2z := hide (G2.out.kept KT.out (fun x h1 h2 e => by omega))
          have TZ : Hid (Two ((v45.setCell ⟨D.heap.size, 0, none⟩ (.slice ja S.length jc)).setCell ⟨D.heap.size, 1, none⟩ (.slice ka N.length kc)) (D.heap.size) (.slice ja S.length jc) (.slice ka N.length kc)) := hide ⟨by rw [cell_set_other (by simp)]; exact cell_set_same z0, cell_set_same ((cell_set_other (by simp)).trans z1)⟩
          clear KT G1 G2 BR XA
          go_simp
          refine hK.out _ _ (KB.out _ BZ.out) (fun hHeld => ?_)
          clear hK K
          try simp only [Act.put, List.setIfInBounds_toArray, List.set_cons_zero, List.set_cons_succ]
          refine wpAnyH_done (by kernel_rfl) ?_ _
          go_wp2_with fail
          go_meet
          case rel => exact ⟨D.heap.size, ja, jc, ka, kc, v43.heap.size, rfl, TZ, hide (G1z.out.low (by omega)), hide (by have := G2z.out.low (B' := v43.heap.size) (by omega); exact ⟨this.1, fun x hx => by have := this.2 x hx; simp; omega⟩), by omega, by simp; omega, BZ⟩
        · have BRn := hide (below_next BR.out (below_alloc v42 (.cells #[.slice la L.length lc, .slice pa pk.length pc] 22)))
          have R1n := hide (cell_next R1.out (below_alloc v42 (.cells #[.slice la L.length lc, .slice pa pk.length pc] 22)))
          have XAn := hide (XA.out.below (below_alloc v42 (.cells #[.slice la L.length lc, .slice pa pk.length pc] 22)))
          have R2n := hide (Two.new v42 (.slice la L.length lc) (.slice pa pk.length pc) 22)
          have hsv46 : v42.heap.size < (v42.alloc (.cells #[.slice la L.length lc, .slice pa pk.length pc] 22)).heap.size := by simp
          go_simp
          refine hK.out _ _ (KB.out _ BRn.out) (fun hHeld => ?_)
          clear hK K BR R1 XA
          have BR := BRn
          clear BRn
          have R1 := R1n
          clear R1n
          have XA := XAn
          clear XAn
          have R2 := R2n
          clear R2n
          try simp only [Act.put, List.setIfInBounds_toArray, List.set_cons_zero, List.set_cons_succ]
          generalize v42.alloc (.cells #[.slice la L.length lc, .slice pa pk.length pc] 22) = v46 at *
          refine wpAnyH_ready (rs := [3]) (by kernel_rfl) (by simp) ?_
          refine AllReadyH.cons rfl (fun K hK => ?_) AllReadyH.nil
          go_simp
          refine (HJ1.out v46 _ (below_next B2.out BR.out) R1.out).mono ?_
          rintro e v47 ⟨ja, jc, rfl, hgv47, hbv47⟩
          have BRn := hide (below_next BR.out hbv47)
          have G1n := hide hgv47
          have hsv47 : v46.heap.size ≤ v47.heap.size := hbv47.size
          have R2n := hide (R2.out.below hbv47)
          have XAn := hide (XA.out.below hbv47)
          clear hgv47 hbv47
          go_wp2_with fail
          refine hK.out _ _ (KB.out _ BRn.out) (fun hHeld => ?_)
          clear hK K R1 BR R2 XA
          have BR := BRn
          clear BRn
          have G1 := G1n
          clear G1n
          have R2 := R2n
          clear R2n
          have XA := XAn
          clear XAn
          try simp only [Act.put, List.setIfInBounds_toArray, List.set_cons_zero, List.set_cons_succ]
          refine wpAnyH_ready (rs := [9]) (by kernel_rfl) (by simp) ?_
          refine AllReadyH.cons rfl (fun K hK => ?_) AllReadyH.nil
          go_simp
          refine (HJ2.out v47 pa pc _ (below_next B2.out BR.out) (RP.out.below BR.out) R2.out.1 R2.out.2).mono ?_
          rintro e v48 ⟨ka, kc, rfl, hgv48, hbv48⟩
          have BRn := hide (below_next BR.out hbv48)
          have G2n := hide hgv48
          have hsv48 : v47.heap.size ≤ v48.heap.size := hbv48.size
          have XAn := hide (XA.out.below hbv48)
          have G1n := hide (G1.out.below hbv48)
          clear hgv48 hbv48
          go_wp2_with fail
          refine hK.out _ _ (KB.out _ BRn.out) (fun hHeld => ?_)
          clear hK K R2 BR XA G1
          have BR := BRn
          clear BRn
          have G2 := G2n
          clear G2n
          have XA := XAn
          clear XAn
          have G1 := G1n
          clear G1n
          try simp only [Act.put, List.setIfInBounds_toArray, List.set_cons_zero, List.set_cons_succ]
          refine tk 10 32 (.agg #[.slice ja S.length jc, .slice ka N.length kc]) hHeld rfl (by kernel_rfl) (by kernel_rfl) (by kernel_rfl) (fun _ _ _ h => h) (Or.inl ⟨by rfl, ?_⟩) ?_
          · rintro w ⟨q0, q1, q2⟩
            go_simp
          try simp only [Act.put, List.setIfInBounds_toArray, List.set_cons_zero, List.set_cons_succ]
          refine wpAnyH_ready (rs := [12]) (by kernel_rfl) (by simp) ?_
          refine AllReadyH.cons rfl (fun K hK => ?_) AllReadyH.nil
          obtain ⟨⟨z0, z1⟩, z2, z3⟩ := XA.out
          have KT := hide (Kept.two v48 (D.heap.size) 0 1 (.slice ja S.length jc) (.slice ka N.length kc))
          have hszW := BR.out.size
          have BZ := hide (BR.out.trans (KT.out.below (B := W1.heap.size) hszW (fun x hx e => by omega)))
          have G1z := hide (G1.out.kept KT.out (fun x h1 h2 e => by omega))
          have G2z := hide (G2.out.kept KT.out (fun x h1 h2 e => by omega))
          have TZ : Hid (Two ((v48.setCell ⟨D.heap.size, 0, none⟩ (.slice ja S.length jc)).setCell ⟨D.heap.size, 1, none⟩ (.slice ka N.length kc)) (D.heap.size) (.slice ja S.length jc) (.slice ka N.length kc)) := hide ⟨by rw [cell_set_other (by simp)]; exact cell_set_same z0, cell_set_same ((cell_set_other (by simp)).trans z1)⟩
          clear KT G1 G2 BR XA
          go_simp
          refine hK.out _ _ (KB.out _ BZ.out) (fun hHeld => ?_)
          clear hK K
          try simp only [Act.put, List.setIfInBounds_toArray, List.set_cons_zero, List.set_cons_succ]
          refine wpAnyH_done (by kernel_rfl) ?_ _
          go_wp2_with fail
          go_meet
          case rel => exact ⟨D.heap.size, ja, jc, ka, kc, v47.heap.size, rfl, TZ, hide (G1z.out.low (by omega)), hide (by have := G2z.out.low (B' := v47.heap.size) (by omega); exact ⟨this.1, fun x hx => by have := this.2 x hx; simp; omega⟩), by omega, by simp; omega, BZ⟩
      · have BRn := hide (below_next BR.out (below_alloc v41 (.cells #[.slice la L.length lc, .slice pa pk.length pc] 22)))
        have XAn := hide (XA.out.below (below_alloc v41 (.cells #[.slice la L.length lc, .slice pa pk.length pc] 22)))
        have R2n := hide (Two.new v41 (.slice la L.length lc) (.slice pa pk.length pc) 22)
        have hsv49 : v41.heap.size < (v41.alloc (.cells #[.slice la L.length lc, .slice pa pk.length pc] 22)).heap.size := by simp
        go_simp
        refine hK.out _ _ (KB.out _ BRn.out) (fun hHeld => ?_)
        clear hK K BR XA
        have BR := BRn
        clear BRn
        have XA := XAn
        clear XAn
        have R2 := R2n
        clear R2n
        try simp only [Act.put, List.setIfInBounds_toArray, List.set_cons_zero, List.set_cons_succ]
        generalize v41.alloc (.cells #[.slice la L.length lc, .slice pa pk.length pc] 22) = v49 at *
        refine wpAnyH_ready (rs := [2]) (by kernel_rfl) (by simp) ?_
        refine AllReadyH.cons rfl (fun K hK => ?_) AllReadyH.nil
        have BRn := hide (below_next BR.out (below_alloc v49 (.cells #[.slice sa S.length sc] 22)))
        have R2n := hide (R2.out.below (below_alloc v49 (.cells #[.slice sa S.length sc] 22)))
        have XAn := hide (XA.out.below (below_alloc v49 (.cells #[.slice sa S.length sc] 22)))
        have R1n := hide (show (v49.alloc (.cells #[.slice sa S.length sc] 22)).cell? ⟨v49.heap.size, 0, none⟩ = some (.slice sa S.length sc) by simp)
        have hsv50 : v49.heap.size < (v49.alloc (.cells #[.slice sa S.length sc] 22)).heap.size := by simp
        go_simp
        refine hK.out _ _ (KB.out _ BRn.out) (fun hHeld => ?_)
        clear hK K BR R2 XA
        have BR := BRn
        clear BRn
        have R2 := R2n
        clear R2n
        have XA := XAn
        clear XAn
        have R1 := R1n
        clear R1n
        try simp only [Act.put, List.setIfInBounds_toArray, List.set_cons_zero, List.set_cons_succ]
        generalize v49.alloc (.cells #[.slice sa S.length sc] 22) = v50 at *
        refine wpAnyH_ready (rs := [3]) (by kernel_rfl) (by simp) ?_
        refine AllReadyH.cons rfl (fun K hK => ?_) AllReadyH.nil
        go_simp
        refine (HJ1.out v50 _ (below_next B2.out BR.out) R1.out).mono ?_
        rintro e v51 ⟨ja, jc, rfl, hgv51, hbv51⟩
        have BRn := hide (below_next BR.out hbv51)
        have G1n := hide hgv51
        have hsv51 : v50.heap.size ≤ v51.heap.size := hbv51.size
        have R2n := hide (R2.out.below hbv51)
        have XAn := hide (XA.out.below hbv51)
        clear hgv51 hbv51
        go_wp2_with fail
        refine hK.out _ _ (KB.out _ BRn.out) (fun hHeld => ?_)
        clear hK K R1 BR R2 XA
        have BR := BRn
        clear BRn
        have G1 := G1n
        clear G1n
        have R2 := R2n
        clear R2n
        have XA := XAn
        clear XAn
        try simp only [Act.put, List.setIfInBounds_toArray, List.set_cons_zero, List.set_cons_succ]
        refine wpAnyH_ready (rs := [9]) (by kernel_rfl) (by simp) ?_
        refine AllReadyH.cons rfl (fun K hK => ?_) AllReadyH.nil
        go_simp
        refine (HJ2.out v51 pa pc _ (below_next B2.out BR.out) (RP.out.below BR.out) R2.out.1 R2.out.2).mono ?_
        rintro e v52 ⟨ka, kc, rfl, hgv52, hbv52⟩
        have BRn := hide (below_next BR.out hbv52)
        have G2n := hide hgv52
        have hsv52 : v51.heap.size ≤ v52.heap.size := hbv52.size
        have XAn := hide (XA.out.below hbv52)
        have G1n := hide (G1.out.below hbv52)
        clear hgv52 hbv52
        go_wp2_with fail
        refine hK.out _ _ (KB.out _ BRn.out) (fun hHeld => ?_)
        clear hK K R2 BR XA G1
        have BR := BRn
        clear BRn
        have G2 := G2n
        clear G2n
        have XA := XAn
        clear XAn
        have G1 := G1n
        clear G1n
        try simp only [Act.put, List.setIfInBounds_toArray, List.set_cons_zero, List.set_cons_succ]
        refine tk 10 32 (.agg #[.slice ja S.length jc, .slice ka N.length kc]) hHeld rfl (by kernel_rfl) (by kernel_rfl) (by kernel_rfl) (fun _ _ _ h => h) (Or.inl ⟨by rfl, ?_⟩) ?_
        · rintro w ⟨q0, q1, q2⟩
          go_simp
        try simp only [Act.put, List.setIfInBounds_toArray, List.set_cons_zero, List.set_cons_succ]
        refine wpAnyH_ready (rs := [12]) (by kernel_rfl) (by simp) ?_
        refine AllReadyH.cons rfl (fun K hK => ?_) AllReadyH.nil
        obtain ⟨⟨z0, z1⟩, z2, z3⟩ := XA.out
        have KT := hide (Kept.two v52 (D.heap.size) 0 1 (.slice ja S.length jc) (.slice ka N.length kc))
        have hszW := BR.out.size
        have BZ := hide (BR.out.trans (KT.out.below (B := W1.heap.size) hszW (fun x hx e => by omega)))
        have G1z := hide (G1.out.kept KT.out (fun x h1 h2 e => by omega))
        have G2z := hide (G2.out.kept KT.out (fun x h1 h2 e => by omega))
        have TZ : Hid (Two ((v52.setCell ⟨D.heap.size, 0, none⟩ (.slice ja S.length jc)).setCell ⟨D.heap.size, 1, none⟩ (.slice ka N.length kc)) (D.heap.size) (.slice ja S.length jc) (.slice ka N.length kc)) := hide ⟨by rw [cell_set_other (by simp)]; exact cell_set_same z0, cell_set_same ((cell_set_other (by simp)).trans z1)⟩
        clear KT G1 G2 BR XA
        go_simp
        refine hK.out _ _ (KB.out _ BZ.out) (fun hHeld => ?_)
        clear hK K
        try simp only [Act.put, List.setIfInBounds_toArray, List.set_cons_zero, List.set_cons_succ]
        refine wpAnyH_done (by kernel_rfl) ?_ _
        go_wp2_with fail
        go_meet
        case rel => exact ⟨D.heap.size, ja, jc, ka, kc, v51.heap.size, rfl, TZ, hide (G1z.out.low (by omega)), hide (by have := G2z.out.low (B' := v51.heap.size) (by omega); exact ⟨this.1, fun x hx => by have := this.2 x hx; simp; omega⟩), by omega, by simp; omega, BZ⟩
  case rest =>
    obtain ⟨ab, ja, jc, ka, kc, M, rfl, HT, HG1, HG2, hM1, hM2, HBW⟩ := hcut
    obtain ⟨WF, hWF⟩ : ∃ x, x = wc := ⟨_, rfl⟩
    subst hWF
    have BF := hide (below_next B2.out HBW.out)
    have X3 := hide (X2.out.below HBW.out)
    have hjc : S.length ≤ jc := ownsRow_cap HG1.out.1
    have hkc : N.length ≤ kc := ownsRow_cap HG2.out.1
    have HZ3 := hide (show w.heap.size + 2 ≤ W1.heap.size by have := HZW.out; omega)
    have HTL := hide (fun u => isTooLong_any ja ka jc kc S.length N.length u (by omega) (by omega))
    have HCN := hide (fun (u : World) (hb : Below WF.heap.size WF u) => counted_any ja ka jc kc S N u (HG1.out.own.reads.below hb) (HG2.out.own.reads.below hb) HR.out.su8 HNU.out hjc hkc (by omega) (by omega))
    clear KB B2 X2 U2 T2 RP HP HJ1 HJ2 HBW HZW
    obtain ⟨t0, t1⟩ := HT.out
    by_cases hbig : 2000 < S.length + N.length
    · have HBG := hide hbig
      rw [decide_eq_true hbig] at HTL
      go_wp2_with fail
      refine (HTL.out _).mono ?_
      rintro e w5 ⟨rfl, hb5⟩
      have B5 := hide (below_next BF.out hb5)
      have hs5 := hb5.size
      have hsW : w.heap.size + 2 ≤ WF.heap.size := by have := HZ3.out; omega
      obtain ⟨⟨y0, y1, y2, y3⟩, yf⟩ := X3.out.below hb5
      have yf0 := yf 0
      have yf1 := yf 1
      have yf2 := yf 2
      have yf3 := yf 3
      clear yf
      clear hb5
      go_wp2_with fail
      refine bodyPost_ret (v := .agg #[.int .i64 2, .int .i64 0, .slice none 0 0, .slice none 0 0]) (by simp [results, Try.results15, go_sem, y0, y1, y2, y3]) rfl (.inl ⟨HBG.out, none, 0, none, 0, w.heap.size, rfl, GB.void _ _ _, GB.void _ _ _, Nat.le_refl _, by simp; omega, below_four B5.out (by omega) _ _ _ _⟩)
    · have HBG := hide hbig
      rw [decide_eq_false hbig] at HTL
      go_wp2_with fail
      refine (HTL.out _).mono ?_
      rintro e w5 ⟨rfl, hb5⟩
      have hs5 := hb5.size
      obtain ⟨t2, t3⟩ := HT.out.below hb5
      have B5 := hide hb5
      clear hb5 t0 t1
      go_wp2_with fail
      refine (HCN.out w5 B5.out).mono ?_
      rintro e w6 ⟨rfl, hb6⟩
      have hs6 := hb6.size
      have B6 := hide (below_next B5.out hb6)
      have BE := hide (below_next BF.out B6.out)
      have G1 := hide (HG1.out.below B6.out)
      have G2 := hide (HG2.out.below B6.out)
      have hsW : w.heap.size + 2 ≤ W1.heap.size := HZ3.out
      clear hb6
      obtain ⟨⟨y0, y1, y2, y3⟩, yf⟩ := X3.out.below B6.out
      have yf0 := yf 0
      have yf1 := yf 1
      have yf2 := yf 2
      have yf3 := yf 3
      clear yf
      go_wp2_with fail
      refine bodyPost_ret (v := .agg #[.int .i64 0, .int .i64 (((lines S).length + (lines N).length : Nat) : Int), .slice ja S.length jc, .slice ka N.length kc]) (by simp [results, Try.results15, go_sem, y0, y1, y2, y3]) rfl (.inr ⟨HBG.out, ja, jc, ka, kc, M, rfl, ?_, ?_, by omega, by simp; omega, below_four BE.out (by omega) _ _ _ _⟩)
      · exact (G1.out.kept (S := fun b => b = w.heap.size + 1) (Kept.four4 w6 (w.heap.size + 1) _ _ _ _) (fun b h1 h2 e => by omega)).low (by omega)
      · have := G2.out.kept (S := fun b => b = w.heap.size + 1) (Kept.four4 w6 (w.heap.size + 1) (.int .i64 0) (.int .i64 (((lines S).length + (lines N).length : Nat) : Int)) (.slice ja S.length jc) (.slice ka N.length kc)) (fun b h1 h2 e => by omega)
        exact ⟨this.1, fun x hx => by have := this.2 x hx; simp; omega⟩
end Go.Proofs.Ytpikgmbjgfdcfaa

