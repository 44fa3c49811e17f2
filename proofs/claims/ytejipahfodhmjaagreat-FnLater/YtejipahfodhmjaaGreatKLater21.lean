/-
  Texts put together: ManyC AppR LazY.
-/
import Derived.Test.YtejipahfodhmjaaGreatKLater13
import Derived.Test.YtejipahfodhmjaaGreatKLater15
import Derived.Test.YtejipahfodhmjaaGreatKLater20
namespace Go.Proofs.YtejipahfodhmjaaGreat
open Go.RowKit Go.Maps
set_option linter.unusedVariables false

theorem Holds.more {w : World} {b N N' : Nat} {L : List Ch} {T : Nat} (h : Holds w b N L T) (hN : N ≤ N') : Holds w b N' L T := by
  obtain ⟨Dt, A, C, h1, r⟩ := h
  exact ⟨Dt, A, C, h1.mono hN, r⟩

def resS (o : Option St) : Int × St := match o with | none => (2, (fun _ => 0, fun _ => [], 0)) | some t => (0, t)


theorem perm_key {D : Nat → Int} {P : Nat → List Int} {n : Nat} {L : List Ch} (h : (lst D P n).Perm L) (d : Int) : d ∈ L.map Prod.fst ↔ ∃ i, i < n ∧ D i = d := by
  rw [← lst_key (P := P)]
  exact (h.map Prod.fst).mem_iff.symm

set_option maxRecDepth 100000 in
set_option maxHeartbeats 3200000 in
theorem implBytes_ok (a : Option Addr) (c n : Nat) (D : Nat → Int) (P : Nat → List Int) (a2 : Option Addr) (c2 : Nat) (zs : List Int) (w : World) (h : RdC w a D P n) (hn : n ≤ 1048576) (hP : ∀ i, i < n → U8 (P i) ∧ (P i).length ≤ 1048576) (hF : fault D P n = 0) (h2 : Reads .u8 w a2 zs) (hu : U8 zs) (hcap : zs.length ≤ c2) (hl : zs.length ≤ 24) (q : Int) (t : St) (hres : resS (runS (D, P, n) (piece zs) (cut zs).length) = (q, t)) :
    Calls Tryz.prog 16 #[.slice a n c, .slice a2 zs.length c2] w (ResC q t.1 t.2.1 t.2.2 w) := by
  have hfl := implFault_any a c n D P (w.alloc (.cells #[.int .i64 0, .slice none 0 0] 44)) (h.below (below_alloc _ _)) hn hP
  rw [hF] at hfl
  have HRt := hide (fault_zero hF)
  have hn40 := HRt.out.many
  have HC := hide hfl
  have HA := hide h
  have HR := hide h2
  have HU := hide hu
  have HRes := hide hres
  have hN : (cut zs).length ≤ 3 := by rw [cut_length]; omega
  have HPL : Hid (∀ j, j < (cut zs).length → 1 ≤ (piece zs j).length ∧ (piece zs j).length ≤ 8) := fun j hj => by rw [cut_length] at hj; rw [piece_length]; omega
  have HCut := hide (fun (u : World) (hr : Reads .u8 u a2 zs) => implCutChunks_ok a2 c2 zs u hr hcap hl)
  generalize hNN : (cut zs).length = N at *
  clear h hP hF hfl h2 hu hres hNN
  go_enter Tryz.func16, Tryz.ntmps16
  go_wp2_with fail
  refine HC.out.mono ?_
  rintro e w1 ⟨rfl, b1⟩
  have X1 := hide ((Box.new w (.int .i64 0) (.slice none 0 0) 44).below b1)
  have hs1 : w.heap.size < w1.heap.size := by have := b1.size; simp at this; omega
  have B1 := hide (below_next (below_alloc w (.cells #[.int .i64 0, .slice none 0 0] 44)) b1)
  clear b1 HC
  go_wp2_with fail
  refine (HCut.out w1 (HR.out.below B1.out)).mono ?_
  rintro e w2 ⟨pv, rfl, hG2, b2⟩
  obtain ⟨pa, pc, rfl⟩ := hG2.shape
  have hs2 := b2.size
  have X2 := hide ((X1.out.below b2).below (below_alloc _ (.cells #[.int .i64 0, .slice pa N pc] 102)))
  have T2 := hide (Two.new w2 (.int .i64 0) (.slice pa N pc) 102)
  have G2 := hide hG2
  have B2 := hide (below_next (below_next B1.out b2) (below_alloc _ (.cells #[.int .i64 0, .slice pa N pc] 102)))
  have hW : (w2.alloc (.cells #[.int .i64 0, .slice pa N pc] 102)).heap.size = w2.heap.size + 1 := by simp
  clear b2 hG2 X1 B1 HCut
  go_wp2_with fail
  refine (mapChunks_any a c n D P _ (HA.out.below B2.out) HRt.out).mono ?_
  rintro e w3 ⟨bm, rfl, hbm, hH3, b3⟩
  rw [hW] at hbm hH3
  have H3 := hide hH3
  have hs3 : w2.heap.size < w3.heap.size := by have := b3.size; omega
  have X3 := hide (X2.out.below b3)
  have B23 := hide (below_next (below_alloc w2 (.cells #[.int .i64 0, .slice pa N pc] 102)) b3)
  have B3 := hide (below_next B2.out b3)
  obtain ⟨t0, t1⟩ := T2.out.below b3
  clear hH3 X2 T2 B2 b3 hW
  go_wp2
  go_loopw [9, 10, 30] (fun _ _ i wr => ∃ (j : Nat) (s : St) (L : List Ch), j ≤ N ∧ i = .int .i64 j ∧ runS (D, P, n) (piece zs) j = some s ∧ RightC s.1 s.2.1 s.2.2 ∧ (lst s.1 s.2.1 s.2.2).Perm L ∧ Holds wr bm (n + j) L (w2.heap.size + 1) ∧ Kept (fun x => x = bm) w3 wr) (fun _ _ i _ => N - (intOf i).toNat)
  case atStart => exact ⟨0, (D, P, n), lst D P n, Nat.zero_le _, rfl, rfl, HRt.out, List.Perm.refl _, H3.out, Kept.refl _ _⟩
  case round =>
    obtain ⟨j, ⟨D1, P1, n1⟩, L, hj, rfl, hrun, hR1, hperm, hH, hk⟩ := hrel
    simp only at hR1 hperm
    have HR1 := hide hR1
    have hn1 := hR1.many
    have HRun := hide hrun
    have HNx := hide (runS_next hrun)
    have HPm := hide hperm
    have hLl : L.length = n1 := by rw [← hperm.length_eq, lst_length]
    have HH := hide hH
    have HK := hide hk
    have hsr := hk.size
    clear hrun hR1 hperm hH
    by_cases hlt : j < N
    · obtain ⟨gp, x, dx, rfl, hc0, hr0⟩ := G2.out.at hlt
      have hpl := HPL.out j hlt
      have HUz := hide (HU.out.piece j)
      generalize piece zs j = z at *
      have hzne : z ≠ [] := by intro e; subst e; simp at hpl
      have hgp : gp < w2.heap.size := World.block_lt_of_cell? w2 ⟨gp, j, none⟩ hc0
      have HLt := hide (hr0.lt hzne)
      have hc1 := (hk.cell (p := ⟨gp, j, none⟩) (by simp; omega) (by simp; omega)).trans ((B23.out.cell (p := ⟨gp, j, none⟩) hgp).trans hc0)
      have HRz := hide ((hr0.below B23.out).kept hk (fun _ y hy e => by have := HLt.out y hy; omega))
      have HDg := hide (implDigestOf_any x dx z wr HRz.out HUz.out (by omega))
      have hdr := digest_range z
      have hwf := i64_wf hdr.1 hdr.2
      clear hc0 hr0 hk
      cases hh : hasS (D1, P1, n1) (digest z) with
      | true =>
        have HEq : Hid (runS (D, P, n) (piece zs) (j + 1) = some (D1, P1, n1)) := by rw [HNx.out]; unfold stepS; rw [if_pos hh]; exact hide rfl
        have HPt := hide (put_there bm (n + j) L (w2.heap.size + 1) (digest z) x z.length dx wr HH.out hwf ((perm_key HPm.out _).2 (hasS_true hh)))
        clear hh
        generalize digest z = dz at *
        go_wp2_with (first | (go_at_call 52; refine HDg.out.mono ?_; rintro e w4 ⟨rfl, rfl⟩) | (go_at_call 51; refine HPt.out.mono ?_; rintro e w5 ⟨rfl, hH5, hk5⟩; have H5 := hide hH5; have K5 := hide hk5; clear hH5 hk5) | fail)
        go_roundw
        case rel => exact ⟨j + 1, (D1, P1, n1), L, by omega, by go_num, HEq.out, HR1.out, HPm.out, H5.out.more (by omega), HK.out.trans K5.out⟩
        case measure => simp [intOf]; omega
      | false =>
        have hnk : digest z ∉ L.map Prod.fst := fun hm => by obtain ⟨i, hi, e⟩ := (perm_key HPm.out _).1 hm; exact hasS_false hh i hi e
        by_cases hf : 40 ≤ n1
        · have HEq : Hid (runS (D, P, n) (piece zs) N = none) := runS_none (k := j + 1) (by rw [HNx.out]; unfold stepS; rw [hh, if_neg (by simp), if_pos hf]) N (by omega)
          have HPt := hide (put_full bm (n + j) L (w2.heap.size + 1) (digest z) x z.length dx wr HH.out hwf hnk (by omega))
          obtain ⟨rfl, rfl⟩ : (2 : Int) = q ∧ ((fun _ => 0, fun _ => [], 0) : St) = t := by have := HRes.out; rw [HEq.out] at this; simpa [resS] using this
          clear hh hnk
          generalize digest z = dz at *
          go_wp2_with (first | (go_at_call 52; refine HDg.out.mono ?_; rintro e w4 ⟨rfl, rfl⟩) | (go_at_call 51; refine HPt.out.mono ?_; rintro e w5 ⟨rfl, hH5, hk5⟩; have K5 := hide (HK.out.trans hk5); obtain ⟨⟨q0, q1⟩, q2, q3⟩ := X3.out.kept K5.out (fun e => by omega); clear hH5 hk5) | fail)
          exact bodyPost_ret (v := .agg #[.int .i64 2, .slice none 0 0]) (by simp [results, Tryz.results16, go_sem, q0, q1]) rfl (ResC.no (((B3.out.trans (K5.out.below B3.out.size (fun y hy e => by omega))).setCell (Nat.le_refl _) _).setCell (Nat.le_refl _) _))
        · have HEq : Hid (runS (D, P, n) (piece zs) (j + 1) = some (putSC (D1, P1, n1) z)) := by rw [HNx.out]; unfold stepS; rw [hh, if_neg (by simp), if_neg hf]; exact hide rfl
          have HR2 := hide (RightC.put (s := (D1, P1, n1)) HR1.out hpl hh hf)
          have HPt := hide (put_new bm (n + j) L (w2.heap.size + 1) (digest z) x dx z wr HH.out hwf hnk (by omega) (by omega) HRz.out (fun y hy => by have := HLt.out y hy; omega))
          have HP2 : Hid ((lst (putSC (D1, P1, n1) z).1 (putSC (D1, P1, n1) z).2.1 (putSC (D1, P1, n1) z).2.2).Perm (L ++ [(digest z, z)])) := (ins_perm D1 P1 (plc_ok D1 (digest z) n1).1 (digest z) z).trans (HPm.out.append_right _)
          generalize putSC (D1, P1, n1) z = t2 at *
          clear hh hnk
          generalize digest z = dz at *
          go_wp2_with (first | (go_at_call 52; refine HDg.out.mono ?_; rintro e w4 ⟨rfl, rfl⟩) | (go_at_call 51; refine HPt.out.mono ?_; rintro e w5 ⟨rfl, hH5, hk5⟩; have H5 := hide hH5; have K5 := hide hk5; clear hH5 hk5) | fail)
          go_roundw
          case rel => exact ⟨j + 1, t2, _, by omega, by go_num, HEq.out, HR2.out, HP2.out, H5.out, HK.out.trans K5.out⟩
          case measure => simp [intOf]; omega
    · have hje : j = N := by omega
      subst hje
      obtain ⟨rfl, rfl⟩ : (0 : Int) = q ∧ (D1, P1, n1) = t := by have := HRes.out; rw [HRun.out] at this; simpa [resS] using this
      have hpw := pairwise_lst (D := D1) (P := P1) (n := n1) HR1.out.inj
      have hnd := HH.out.nodup
      have HUP : Hid (up L = lst D1 P1 n1) := up_unique ((up_perm hnd).trans HPm.out.symm) (up_up hnd) hpw
      have HLen : Hid (∀ p ∈ L, 0 < p.2.length ∧ p.2.length ≤ 1048576) := fun p hp => by obtain ⟨i, hi, e⟩ := lst_mem.1 (HPm.out.symm.subset hp); subst e; exact HR1.out.u8len hi
      have X4 := hide (X3.out.kept HK.out (fun e => by omega))
      have B4 := hide (B3.out.trans (HK.out.below B3.out.size (fun y hy e => by omega)))
      clear hpw hnd hk
      go_wp2_with fail
      refine (risingC_any bm _ L (w2.heap.size + 1) wr HH.out (by omega) HLen.out (by omega)).mono ?_
      rintro e w6 ⟨av, cv, rfl, hG, b6⟩
      rw [hLl] at hG ⊢
      have HG := hide (hG.congr (D' := D1) (P' := P1) (fun i hi => by rw [HUP.out]; exact (dg_lst hi).symm) (fun i hi => by rw [HUP.out]; exact (bt_lst hi).symm))
      obtain ⟨⟨q0, q1⟩, q2, q3⟩ := X4.out.below b6
      have B6 := hide (below_next B4.out b6)
      clear hG b6 X4 B4
      go_wp2_with fail
      exact bodyPost_ret (v := .agg #[.int .i64 0, .slice av n1 cv]) (by simp [results, Tryz.results16, go_sem, q0, q1]) rfl (ResC.box HG.out (by omega) B6.out)

end Go.Proofs.YtejipahfodhmjaaGreat

namespace Go.Proofs.YtejipahfodhmjaaGreat
open Go.RowKit Go.Maps
set_option linter.unusedVariables false
theorem wpList_append_reads {P : Program} {wr : World} {ops : Array Oper} {rest : List Oper} {o : Oper} {a : Act} {Q : Exit → Act → World → Prop} (hgd : o.guard = none) (s x : Operand) (t : TypeId)
    (ho : o.op = .call { callee := .builtin .append, args := #[s, x], argTypes := #[t, t] })
    (base : Nat) (e : TypeId) (i : TypeInfo) (k : IntKind) (ty : TypeDesc) (hu : P.underlying t = some (.slice e)) (hi : P.info? e = some i) (hz : i.zero = some (.int k 0))
    (hsize : i.size = 1) (hby : i.bytes = 1) (g c n : Nat) (ys : List Int) (hs : a.eval s = .slice (some ⟨g, 0, none⟩) n c) (hown : wr.ownsRow base e 1 (.slice (some ⟨g, 0, none⟩) n c) n (ys.map (Value.int k)))
    (xa : Option Addr) (m cap : Nat) (zs : List Int) (hx : a.eval x = .slice xa m cap) (hm : m = zs.length) (hr : Reads k wr xa zs)
    (h63 : n + m ≤ maxLen) (hbytes : (n + m) * 1 ≤ 140737488355328) (hbase : base ≤ wr.heap.size)
    (h : ∀ av cv w', w'.ownsRow base e 1 (.slice av (n + m) cv) (n + m) ((ys ++ zs).map (Value.int k)) → Kept (fun b => b = g) wr w' → wpList P ops Q rest (a.put o.dst (.slice av (n + m) cv)) w') :
    wpList P ops Q (o :: rest) a wr := by
  cases xa with
  | some ad =>
    refine wpList_append_own _ hgd s x t ho base e i (.int k 0) 1 1 hu hi hz hsize hby rfl (by decide) _ n _ hs hown ad m cap (zs.map (Value.int k)) hx (by simp [hm]) (fun j u hj => ?_) (ints_one _ _) h63 hbytes hbase ?_
    · have h0 : zs ≠ [] := fun e => by subst e; simp at hj
      obtain ⟨b, off, e1, hb, hc⟩ := hr h0
      simp only [Option.some.injEq] at e1
      subst e1
      exact reads_news hc j u hj
    · intro v' w' ho' hg _
      rw [← List.map_append] at ho'
      obtain ⟨av, cv, rfl⟩ := ownsRow_shape ho'
      exact h av cv w' ho' ⟨hg.os, hg.tape, hg.output, hg.size, fun q hq hn => hg.block q hq (fun e => hn (by simp [Value.ownBlock] at e; exact e))⟩
  | none =>
    have h0 : zs = [] := by
      by_cases h0 : zs = []
      · exact h0
      · obtain ⟨b, off, e1, _⟩ := hr h0; cases e1
    subst h0
    simp only [List.length_nil] at hm
    subst hm
    have hc : n ≤ c := ownsRow_cap hown
    have hrun : (Builtin.append_ #[t, t] o.type #[.slice (some ⟨g, 0, none⟩) n c, .slice none 0 cap]).run P wr = .ok (.slice (some ⟨g, 0, none⟩) (n + 0) c) wr := by
      simp [Builtin.append_, run_underlying hu, sizeOf, typeInfo, hi, Builtin.lenOf, Builtin.firstCells, storeCells, hc]
    refine wpList_plain hgd fun K hK => ?_
    unfold Oper.wp execOp
    simp only [ho, resolve, invoke, builtin, Sem.run_bind, Sem.run_pure, Result.andThen_ok, List.map_toArray, List.map_cons, List.map_nil, hs, hx, hrun]
    exact hK _ _ (h _ _ wr (by simpa using hown) (Kept.refl _ _))

end Go.Proofs.YtejipahfodhmjaaGreat

namespace Go.Proofs.YtejipahfodhmjaaGreat
open Go.RowKit Go.Maps
set_option linter.unusedVariables false

theorem firstBad_ne8 {f : Nat → Option Int} (h : ∀ i, f i ≠ some 8) : ∀ (m i : Nat), firstBad f i m ≠ 8
  | 0, i => by simp [firstBad]
  | m + 1, i => by
    unfold firstBad
    cases hf : f i with
    | none => exact firstBad_ne8 h m (i + 1)
    | some c => exact fun e => h i (hf.trans (congrArg some e))
theorem fault_ne8 (D : Nat → Int) (P : Nat → List Int) (n : Nat) : fault D P n ≠ 8 := by
  unfold fault
  split
  · decide
  · refine firstBad_ne8 (fun i e => ?_) n 0
    unfold atFault at e
    by_cases h1 : oneFault (D i) (P i) ≠ 0
    · rw [if_pos h1] at e
      simp only [Option.some.injEq] at e
      unfold oneFault at e
      repeat' split at e
      all_goals (revert e; decide)
    · rw [if_neg h1] at e
      split at e
      · revert e; decide
      · cases e
theorem faultP_ne8 (p : Bs) : faultP p ≠ 8 := by
  unfold faultP
  split
  · decide
  · split
    · unfold faultN
      repeat' split
      all_goals decide
    · decide
theorem entFault_ne8 (e : En) : entFault e ≠ 8 := by
  unfold entFault
  repeat' split
  all_goals first | decide | exact faultP_ne8 _
theorem layFromH_ne8 (home : Bs → Bool) : ∀ (es : List En) (prev : Option En), layFromH home prev es ≠ 8
  | [], _ => by simp [layFromH]
  | e :: r, prev => by
    unfold layFromH
    split
    · exact layFromH_ne8 home r (some e)
    · unfold entBadH
      repeat' split
      all_goals first | decide | exact entFault_ne8 _
theorem lsFrom_ne8 : ∀ ls : List (List En), lsFrom ls ≠ 8
  | [] => by simp [lsFrom]
  | es :: r => by
    unfold lsFrom
    split
    · exact lsFrom_ne8 r
    · unfold layFaultP
      split
      · decide
      · exact layFromH_ne8 _ _ _
theorem layersP_ne8 (ls : List (List En)) : layersP ls ≠ 8 := by
  unfold layersP
  split
  · decide
  · exact lsFrom_ne8 ls
theorem fil_ne8 (ls : List (List En)) (D : Nat → Int) (P : Nat → List Int) (n : Nat) (p : Bs) : filC ls D P n p ≠ 8 := by
  unfold filC lacF plcC askL
  repeat' split
  all_goals first | decide | exact fault_ne8 _ _ _ | exact layersP_ne8 _ | exact faultP_ne8 _

def Gro (D : Nat → Int) (P : Nat → List Int) (n : Nat) (D' : Nat → Int) (P' : Nat → List Int) (n' : Nat) : Prop := ∀ z x, partD D P n z = some x → partD D' P' n' z = some x
theorem Gro.refl (D : Nat → Int) (P : Nat → List Int) (n : Nat) : Gro D P n D P n := fun _ _ h => h
theorem Gro.trans {D : Nat → Int} {P : Nat → List Int} {n : Nat} {D' : Nat → Int} {P' : Nat → List Int} {n' : Nat} {D2 : Nat → Int} {P2 : Nat → List Int} {n2 : Nat} (h : Gro D P n D' P' n') (h2 : Gro D' P' n' D2 P2 n2) : Gro D P n D2 P2 n2 := fun z x hx => h2 z x (h z x hx)
theorem gro_join {D : Nat → Int} {P : Nat → List Int} {n : Nat} {D' : Nat → Int} {P' : Nat → List Int} {n' : Nat} (h : Gro D P n D' P' n') : ∀ {zs bs : List Int}, joinD D P n zs = some bs → joinD D' P' n' zs = some bs
  | [], bs, hj => by simpa [joinD] using hj
  | z :: r, bs, hj => by
    unfold joinD at hj ⊢
    cases hp : partD D P n z with
    | none => rw [hp] at hj; cases hj
    | some y =>
      rw [hp] at hj
      rw [h z y hp]
      simp only [Option.bind_some] at hj ⊢
      obtain ⟨b2, h2, rfl⟩ := Option.map_eq_some_iff.1 hj
      rw [gro_join h h2]
      rfl
theorem gro_read {D : Nat → Int} {P : Nat → List Int} {n : Nat} {D' : Nat → Int} {P' : Nat → List Int} {n' : Nat} (h : Gro D P n D' P' n') {e : En} (h0 : (rdQ D P n e).1 = 0) : rdQ D' P' n' e = rdQ D P n e := by
  cases hj : joinD D P n e.chunks with
  | none => unfold rdQ at h0; rw [hj] at h0; cases h0
  | some bs =>
    unfold rdQ
    rw [hj, gro_join h hj]
theorem rd_code (D : Nat → Int) (P : Nat → List Int) (n : Nat) (e : En) : (rdQ D P n e).1 = 0 ∨ (rdQ D P n e).1 = 8 ∨ (rdQ D P n e).1 = 6 := by
  unfold rdQ
  cases joinD D P n e.chunks with
  | none => exact .inr (.inl rfl)
  | some bs =>
    simp only
    split
    · exact .inl rfl
    · exact .inr (.inr rfl)
theorem gro_put {s : St} (h : RightC s.1 s.2.1 s.2.2) {z : List Int} (hz : 1 ≤ z.length ∧ z.length ≤ 8) (hd : hasS s (digest z) = false) (hf : ¬ 40 ≤ s.2.2) : Gro s.1 s.2.1 s.2.2 (putSC s z).1 (putSC s z).2.1 (putSC s z).2.2 := by
  have hR := h.put hz hd hf
  intro y x hx
  obtain ⟨i, hi, e1, e2⟩ := partD_some hx
  obtain ⟨D, P, n⟩ := s
  simp only [putSC] at hR hi e1 e2 ⊢
  generalize plc D (digest z) n = m at *
  by_cases hm : i < m
  · have := partD_at hR (i := i) (by omega)
    unfold ins at this ⊢
    simpa only [if_pos hm, e1, e2] using this
  · have := partD_at hR (i := i + 1) (by omega)
    unfold ins at this ⊢
    have e3 : ¬ i + 1 < m := by omega
    have e4 : ¬ i + 1 = m := by omega
    simpa only [if_neg e3, if_neg e4, Nat.add_sub_cancel, e1, e2] using this
def AllU (P : Nat → List Int) (n : Nat) : Prop := ∀ i, i < n → U8 (P i)
theorem allU_put {s : St} (h : AllU s.2.1 s.2.2) {z : List Int} (hz : U8 z) (hm : plc s.1 (digest z) s.2.2 ≤ s.2.2) : AllU (putSC s z).2.1 (putSC s z).2.2 := by
  obtain ⟨D, P, n⟩ := s
  simp only [putSC] at h hm ⊢
  intro i hi
  unfold ins
  generalize plc D (digest z) n = m at *
  by_cases h1 : i < m
  · rw [if_pos h1]; exact h i (by omega)
  · rw [if_neg h1]
    by_cases h2 : i = m
    · rw [if_pos h2]; exact hz
    · rw [if_neg h2]; exact h (i - 1) (by omega)
theorem run_grow {s : St} (h : RightC s.1 s.2.1 s.2.2) (hU : AllU s.2.1 s.2.2) {Z : Nat → List Int} {N : Nat} (hz : ∀ j, j < N → 1 ≤ (Z j).length ∧ (Z j).length ≤ 8) (hu : ∀ j, U8 (Z j)) : ∀ k, k ≤ N → ∀ t, runS s Z k = some t → RightC t.1 t.2.1 t.2.2 ∧ AllU t.2.1 t.2.2 ∧ Gro s.1 s.2.1 s.2.2 t.1 t.2.1 t.2.2
  | 0, _, t, ht => by simp only [runS, Option.some.injEq] at ht; subst ht; exact ⟨h, hU, Gro.refl _ _ _⟩
  | k + 1, hk, t, ht => by
    cases hr : runS s Z k with
    | none => simp [runS, hr] at ht
    | some u =>
      obtain ⟨i1, i2, i3⟩ := run_grow h hU hz hu k (by omega) u hr
      rw [runS_next hr] at ht
      unfold stepS at ht
      cases hh : hasS u (digest (Z k)) with
      | true => rw [hh, if_pos rfl] at ht; simp only [Option.some.injEq] at ht; subst ht; exact ⟨i1, i2, i3⟩
      | false =>
        rw [hh, if_neg (by simp)] at ht
        by_cases hf : 40 ≤ u.2.2
        · rw [if_pos hf] at ht; cases ht
        · rw [if_neg hf] at ht
          simp only [Option.some.injEq] at ht
          subst ht
          exact ⟨i1.put (hz k (by omega)) hh hf, allU_put i2 (hu k) (plc_ok _ _ _).1, i3.trans (gro_put i1 (hz k (by omega)) hh hf)⟩
structure Mor (D : Nat → Int) (P : Nat → List Int) (n : Nat) (D' : Nat → Int) (P' : Nat → List Int) (n' : Nat) : Prop where
  right : RightC D' P' n'
  u8 : AllU P' n'
  gro : Gro D P n D' P' n'
theorem Mor.small {D : Nat → Int} {P : Nat → List Int} {n : Nat} {D' : Nat → Int} {P' : Nat → List Int} {n' : Nat} (h : Mor D P n D' P' n') : ∀ i, i < n' → U8 (P' i) ∧ (P' i).length ≤ 1048576 := fun i hi => ⟨h.u8 i hi, by have := (h.right.len i hi).2; omega⟩
theorem Mor.put {D : Nat → Int} {P : Nat → List Int} {n : Nat} {D' : Nat → Int} {P' : Nat → List Int} {n' : Nat} (h : Mor D P n D' P' n') {ds : List Int} (hu : U8 ds) : ∃ q t, resS (runS (D', P', n') (piece ds) (cut ds).length) = (q, t) ∧ ((q = 0 ∧ Mor D P n t.1 t.2.1 t.2.2) ∨ q = 2) := by
  cases hr : runS (D', P', n') (piece ds) (cut ds).length with
  | none => exact ⟨2, _, rfl, .inr rfl⟩
  | some t =>
    refine ⟨0, t, rfl, .inl ⟨rfl, ?_⟩⟩
    obtain ⟨a1, a2, a3⟩ := run_grow (s := (D', P', n')) h.right h.u8 (Z := piece ds) (N := (cut ds).length) (fun j hj => by
      have hl : (cut ds).length = (ds.length + 7) / 8 := by simp [cut]
      rw [piece_length]
      omega) (fun j => hu.piece j) _ (Nat.le_refl _) t hr
    exact ⟨a1, a2, h.gro.trans a3⟩
set_option maxHeartbeats 800000 in
theorem drawDigestOf_big (a : Option Addr) (cap : Nat) (zs : List Int) (w : World) (h : Reads .u8 w a zs) (hu : U8 zs) (hl : zs.length ≤ 2097152) :
    Calls Tryz.prog 15 #[.slice a zs.length cap] w fun e w' => ∃ v ds, e = .returned v ∧ ds.length ≤ 20 ∧ U8 ds ∧ w'.ownsRow w.heap.size 5 1 v ds.length (ds.map (Value.int .u8)) ∧ Below w.heap.size w w' := by
  have HR := hide h
  have HU := hide hu
  clear h hu
  go_enter Tryz.func15, Tryz.ntmps15
  go_wp2_with fail
  refine (l1Source_any a cap zs _ HR.out).mono ?_
  rintro e w1 ⟨rfl, s1, z1, b1⟩
  have S1 := hide s1
  have B1 := hide b1
  have Z1 := hide z1
  clear s1 b1 z1
  generalize hp : w.heap.size = p at *
  have HP := hide hp
  clear hp
  go_wp2_with fail
  refine (l1Next_big p zs 0 20 _ S1.out HU.out (by decide) (by decide) (by decide) (by decide) hl).mono ?_
  rintro e w2 ⟨r1, rfl, r10, r11, s2, k2⟩
  obtain ⟨n, rfl⟩ := Int.eq_ofNat_of_zero_le r10
  have S2 := hide s2
  have B2 := hide (B1.out.trans (k2.below (B := p) (Nat.le_of_lt S1.out.lt) (fun b hb e => by omega)))
  clear s2 k2 S1 B1
  go_wp2_with fail
  have hp4 := S2.out.lt
  refine (l1Some_big p n zs _ _ S2.out HU.out (by decide) (by decide) hl (by omega) hp4).mono ?_
  rintro e w5 ⟨av, cv, ds, rfl, hds, hU, hown, s5, k5⟩
  have O5 := hide hown
  have U5 := hide hU
  have D5 := hide hds
  have B5 := hide (B2.out.trans (k5.below (B := p) (Nat.le_of_lt hp4) (fun b hb e => by omega)))
  clear hown hU hds s5 k5 S2 B2
  go_wp2_with fail
  go_ret
  refine ⟨_, ds, rfl, by have := D5.out; omega, U5.out, ?_, by rw [HP.out]; exact B5.out⟩
  rw [D5.out, HP.out]
  exact ownsRow_mono O5.out (Nat.le_of_lt hp4)
end Go.Proofs.YtejipahfodhmjaaGreat

