/-
  Texts put together: LogN LogO LogY LogW.
-/
import Derived.Test.YtpikgmbjgfdcfabKCrashL3
namespace Go.Proofs.Ytpikgmbjgfdcfab
open Go.RowKit
set_option linter.unusedVariables false

theorem dropZ {zs : List Int} {k : Nat} (h : k ≤ (lines zs).length) : (lines zs).drop k = lines (zs.drop (endL ((lines zs).take k))) := by
  obtain ⟨g, r, hr, h0⟩ := lines_good _ zs (Nat.le_refl _)
  have gt : GoodL ((lines zs).take k) := fun x hx => g x (List.mem_of_mem_take hx)
  have gd : GoodL ((lines zs).drop k) := fun x hx => g x (List.mem_of_mem_drop hx)
  have e1 : zs = flatL ((lines zs).take k) ++ (flatL ((lines zs).drop k) ++ r) := by
    conv => lhs; rw [hr]
    rw [← List.append_assoc]
    congr 1
    unfold flatL
    rw [← List.flatMap_append, List.take_append_drop]
  have e2 : zs.drop (endL ((lines zs).take k)) = flatL ((lines zs).drop k) ++ r := by
    generalize hq : (lines zs).take k = q at *
    generalize hq2 : (lines zs).drop k = q2 at *
    rw [e1, ← flatL_len, List.drop_left]
  rw [e2, lines_flat gd, lines_none h0, List.append_nil]
theorem endTake {zs : List Int} (k : Nat) : endL ((lines zs).take k) ≤ zs.length := by
  have h1 := end_le zs
  have h2 : endL (lines zs) = endL ((lines zs).take k) + endL ((lines zs).drop k) := by
    rw [← endL_app, List.take_append_drop]
  omega
set_option maxRecDepth 100000 in
set_option maxHeartbeats 1600000 in
theorem l14Read_any (a : Option Addr) (c n : Nat) (zs : List Int) (w : World) (h : Reads .u8 w a zs) (hu : U8 zs) (hc : zs.length ≤ c) (hl : zs.length ≤ 1048576) (hn : n = zs.length) :
    Calls Try.prog 16 #[.slice a n c] w fun e w' => ∃ av cv, e = .returned (.tuple #[.slice av (lines zs).length cv, .int .i64 (endL (lines zs) : Int)]) ∧ OwnS w.heap.size w' (.slice av (lines zs).length cv) (lines zs) ∧ Below w.heap.size w w' := by
  obtain ⟨i1, ki, kz0, kz1, kz2⟩ := info_parts infoS
  by_cases hz : zs = []
  · subst hz
    subst hn
    have HC := hide (fun (u : World) (p : Option Addr) (c' : Nat) => l14One_any p c' [] u (fun e => absurd rfl e) (fun z hz => by simp at hz) (Nat.zero_le _) (by simp))
    have HC' : Hid (∀ (u : World) (p : Option Addr) (c' : Nat), Calls Try.prog 26 #[.slice p 0 c'] u fun e w' => e = .returned (.tuple #[.string ⟨#[]⟩, .int .i64 0]) ∧ Below u.heap.size u w') := hide (fun u p c' => (HC.out u p c').mono (fun e w' ⟨h1, h2⟩ => by
      rcases h1 with ⟨-, h1⟩ | ⟨l, h1, -⟩
      · exact ⟨h1, h2⟩
      · cases h1))
    clear HC h hu hl
    have O1 := hide (World.ownsRow_made (base := w.heap.size) (e := 9) (size := 1) w #[] 0 (Nat.le_refl _) (Nat.zero_le _) rfl)
    show Calls Try.prog 16 #[.slice a 0 c] w fun e w' => ∃ av cv, e = .returned (.tuple #[.slice av 0 cv, .int .i64 0]) ∧ OwnS w.heap.size w' (.slice av 0 cv) [] ∧ Below w.heap.size w w'
    by_cases hc0 : c = 0
    · subst hc0
      cases a <;>
      · go_enter Try.func16, Try.ntmps16
        go_wp2_with fail
        go_loopw [4, 5] (fun v i wr => v = .slice (some ⟨w.heap.size, 0, none⟩) 0 0 ∧ i = .int .i64 0 ∧ Hid (OwnS w.heap.size wr v []) ∧ Hid (Below w.heap.size w wr)) (fun _ _ _ => 0)
        case atStart => exact ⟨rfl, rfl, hide O1.out, hide (below_alloc _ _)⟩
        case round =>
          obtain ⟨rfl, rfl, HO, HB⟩ := hrel
          go_wp2_with fail
          refine (HC'.out _ _ _).mono ?_
          rintro e w1 ⟨rfl, hb1⟩
          have HO1 := hide (HO.out.below hb1)
          have HB1 := hide (below_next HB.out hb1)
          clear hb1
          go_wp2_with fail
          go_ret2
          exact ⟨_, _, rfl, HO1.out, HB1.out⟩
    · cases a <;>
      · go_enter Try.func16, Try.ntmps16
        go_wp2_with fail
        go_loopw [4, 5] (fun v i wr => v = .slice (some ⟨w.heap.size, 0, none⟩) 0 0 ∧ i = .int .i64 0 ∧ Hid (OwnS w.heap.size wr v []) ∧ Hid (Below w.heap.size w wr)) (fun _ _ _ => 0)
        case atStart => exact ⟨rfl, rfl, hide O1.out, hide (below_alloc _ _)⟩
        case round =>
          obtain ⟨rfl, rfl, HO, HB⟩ := hrel
          go_wp2_with fail
          refine (HC'.out _ _ _).mono ?_
          rintro e w1 ⟨rfl, hb1⟩
          have HO1 := hide (HO.out.below hb1)
          have HB1 := hide (below_next HB.out hb1)
          clear hb1
          go_wp2_with fail
          go_ret2
          exact ⟨_, _, rfl, HO1.out, HB1.out⟩
  · obtain ⟨b, off, rfl, -, -⟩ := h hz
    have HC : Hid (∀ (u : World) (k : Nat) (p : Option Addr) (c' : Nat), k ≤ zs.length → Reads .u8 u p (zs.drop k) → zs.length - k ≤ c' → Calls Try.prog 26 #[.slice p (zs.length - k) c'] u fun e w' => OneM (zs.drop k) e ∧ Below u.heap.size u w') := hide (fun u k p c' hk hr hc' => by
      have := l14One_any p c' (zs.drop k) u hr (u8_drop hu k) (by rw [List.length_drop]; exact hc') (by rw [List.length_drop]; omega)
      rwa [List.length_drop] at this)
    have HR := hide (fun (u : World) (hb : Below w.heap.size w u) (k : Nat) (hk : k ≤ zs.length) => show Reads .u8 u (some ⟨b, off + k, none⟩) (zs.drop k) from by
      have := reads_part (h.below hb) k (zs.length - k) (by omega)
      rwa [List.take_of_length_le (by rw [List.length_drop]; omega)] at this)
    have HET := hide (fun k => endTake (zs := zs) k)
    have HDZ := hide (fun k (hk : k ≤ (lines zs).length) => dropZ (zs := zs) hk)
    have hcnt := lines_count zs
    have O1 := hide (World.ownsRow_made (base := w.heap.size) (e := 9) (size := 1) w #[] 0 (Nat.le_refl _) (Nat.zero_le _) rfl)
    subst hn
    clear h hu
    go_enter Try.func16, Try.ntmps16
    go_wp2_with fail
    go_loopw [4, 5] (fun v i wr => ∃ k : Nat, k ≤ (lines zs).length ∧ i = .int .i64 (endL ((lines zs).take k) : Int) ∧ Hid (OwnS w.heap.size wr v ((lines zs).take k)) ∧ Hid (Below w.heap.size w wr)) (fun _ i _ => zs.length - (intOf i).toNat)
    case atStart => exact ⟨0, Nat.zero_le _, rfl, hide O1.out, hide (below_alloc _ _)⟩
    case round =>
      obtain ⟨k, hk, rfl, HO, HB⟩ := hrel
      obtain ⟨va, vc, rfl⟩ := HO.out.shape
      have hd := HDZ.out k hk
      have hE := HET.out k
      have HE1 := hide (HET.out (k + 1))
      have hlt : ((lines zs).take k).length = k := by rw [List.length_take]; omega
      have HLT := hide hlt
      have HTK := hide (show ∀ l, (lines zs)[k]? = some l → (lines zs).take (k + 1) = (lines zs).take k ++ [l] ∧ endL ((lines zs).take (k + 1)) = endL ((lines zs).take k) + (l.length + 5) from fun l hkl => ⟨by rw [List.take_add_one, hkl]; rfl, by rw [List.take_add_one, hkl, endL_app]; simp [endL]⟩)
      have HFIN := hide (show k = (lines zs).length → (lines zs).take k = lines zs from fun e => by rw [e, List.take_length])
      rw [hlt]
      clear hlt
      generalize hE' : endL ((lines zs).take k) = E at *
      generalize (lines zs).take k = q at *
      have HEQ := hide hE'
      clear hE'
      have HD := hide hd
      clear hd
      have hsz := HB.out.size
      have HO2 : Hid (wr.ownsRow w.heap.size 9 1 (.slice va k vc) k (q.map vS)) := hide (by have := HO.out; unfold OwnS at this; rw [HLT.out] at this; exact this)
      have hzu := HLT.out
      clear HO hzu
      by_cases hEc : E = c
      · subst hEc
        have hzE : zs.length = E := by omega
        have HZE := hide hzE
        have hzz : zs.length - E = 0 := by omega
        have hE2 : (E : Int) ≤ (zs.length : Int) := by omega
        have HCE : Hid (∀ (p : Option Addr) (c' : Nat), Calls Try.prog 26 #[.slice p 0 c'] wr fun e w' => OneM (zs.drop E) e ∧ Below wr.heap.size wr w') := hide (fun p c' => by have := HC.out wr E p c' hE (fun e => absurd (List.drop_of_length_le (by omega)) e) (by omega); rwa [hzz] at this)
        clear hzE hzz
        go_wp2_with fail
        refine (HCE.out _ _).mono ?_
        rintro e w1 ⟨hone, hb1⟩
        have HB1 := hide (below_next HB.out hb1)
        have HO1 := hide (ownsRow_below HO2.out hb1)
        have hsz1 := HB1.out.size
        clear hb1
        rcases hone with ⟨ho, rfl⟩ | ⟨l, ho, rfl⟩
        · have hke : k = (lines zs).length := by
            have := congrArg List.length HD.out
            rw [lines_none ho, List.length_drop, List.length_nil] at this
            omega
          have HQ := hide (HFIN.out hke)
          have HKE := hide hke
          clear ho hke
          go_wp2_with fail
          go_ret2
          refine ⟨va, vc, by rw [← HKE.out, ← HQ.out, HEQ.out]; rfl, ?_, HB1.out⟩
          rw [← HKE.out]
          have := HO1.out
          rw [HQ.out] at this
          unfold OwnS
          rw [← HKE.out]
          exact this
        · have hd2 := HD.out
          rw [lines_some ho] at hd2
          obtain ⟨e1, e2, e3⟩ := drop_line hd2
          obtain ⟨t1, t2⟩ := HTK.out l e1
          have HT1 := hide t1
          have HT2 := hide t2
          have h5 : (E : Int) + ((l.length : Int) + 5) ≤ 1048576 := by have := HE1.out; omega
          have hlq : (((l.length : Int) + 5) == 0) = false := by rw [beq_eq_false_iff_ne]; omega
          have hm1 : k + 1 ≤ maxLen := by unfold maxLen; omega
          have hm2 : (k + 1) * 16 ≤ 140737488355328 := by omega
          clear ho hd2 e1 e2 t1 t2
          go_wp2_with (at_builtin; refine wpList_append_one rfl (.tmp 20) (.tmp 22) 40 rfl w.heap.size 9 i1 (.string ⟨#[]⟩) 1 16 Try.underlying40 ki kz0 kz1 kz2 rfl (by decide) _ _ _ rfl HO1.out rfl rfl (by intro u hu; simp at hu; subst hu; rfl) hm1 hm2 hsz1 ?_; intro v' w2 hown2 hkept; have O2 := hide hown2; have K2 := hide hkept; clear hown2 hkept)
          go_roundw
          case rel =>
            refine ⟨k + 1, by omega, by rw [HT2.out]; go_num, ?_, hide (Kept.below_own HB1.out hsz1 HO1.out K2.out)⟩
            rw [HT1.out]
            refine hide (OwnS.snoc ?_ rfl)
            have := O2.out
            rw [HLT.out]
            exact this
          case measure => have := HE1.out; have := HT2.out; simp [intOf]; omega
      · have hEc' : ¬ ((c : Int) = (E : Int)) := by omega
        have hEc2 : (E : Int) ≤ (zs.length : Int) := by omega
        go_wp2_with fail
        refine (HC.out wr E _ _ hE (HR.out _ HB.out _ hE) (by omega)).mono ?_
        rintro e w1 ⟨hone, hb1⟩
        have HB1 := hide (below_next HB.out hb1)
        have HO1 := hide (ownsRow_below HO2.out hb1)
        have hsz1 := HB1.out.size
        clear hb1
        rcases hone with ⟨ho, rfl⟩ | ⟨l, ho, rfl⟩
        · have hke : k = (lines zs).length := by
            have := congrArg List.length HD.out
            rw [lines_none ho, List.length_drop, List.length_nil] at this
            omega
          have HQ := hide (HFIN.out hke)
          have HKE := hide hke
          clear ho hke
          go_wp2_with fail
          go_ret2
          refine ⟨va, vc, by rw [← HKE.out, ← HQ.out, HEQ.out]; rfl, ?_, HB1.out⟩
          rw [← HKE.out]
          have := HO1.out
          rw [HQ.out] at this
          unfold OwnS
          rw [← HKE.out]
          exact this
        · have hd2 := HD.out
          rw [lines_some ho] at hd2
          obtain ⟨e1, e2, e3⟩ := drop_line hd2
          obtain ⟨t1, t2⟩ := HTK.out l e1
          have HT1 := hide t1
          have HT2 := hide t2
          have h5 : (E : Int) + ((l.length : Int) + 5) ≤ 1048576 := by have := HE1.out; omega
          have hlq : (((l.length : Int) + 5) == 0) = false := by rw [beq_eq_false_iff_ne]; omega
          have hm1 : k + 1 ≤ maxLen := by unfold maxLen; omega
          have hm2 : (k + 1) * 16 ≤ 140737488355328 := by omega
          clear ho hd2 e1 e2 t1 t2
          go_wp2_with (at_builtin; refine wpList_append_one rfl (.tmp 20) (.tmp 22) 40 rfl w.heap.size 9 i1 (.string ⟨#[]⟩) 1 16 Try.underlying40 ki kz0 kz1 kz2 rfl (by decide) _ _ _ rfl HO1.out rfl rfl (by intro u hu; simp at hu; subst hu; rfl) hm1 hm2 hsz1 ?_; intro v' w2 hown2 hkept; have O2 := hide hown2; have K2 := hide hkept; clear hown2 hkept)
          go_roundw
          case rel =>
            refine ⟨k + 1, by omega, by rw [HT2.out]; go_num, ?_, hide (Kept.below_own HB1.out hsz1 HO1.out K2.out)⟩
            rw [HT1.out]
            refine hide (OwnS.snoc ?_ rfl)
            have := O2.out
            rw [HLT.out]
            exact this
          case measure => have := HE1.out; have := HT2.out; simp [intOf]; omega
end Go.Proofs.Ytpikgmbjgfdcfab

namespace Go.Proofs.Ytpikgmbjgfdcfab
open Go.RowKit
set_option linter.unusedVariables false

theorem step_app_rd {P : Program} {w : World} {ops : Array Oper} {o : Oper} {a : Act} {K : Act → World → Prop} {Q : Exit → Act → World → Prop} {E : Prop} (hgd : o.guard = none) (s x : Operand) (t : TypeId)
    (ho : o.op = .call { callee := .builtin .append, args := #[s, x], argTypes := #[t, t] })
    (base : Nat) (e : TypeId) (i : TypeInfo) (hu : P.underlying t = some (.slice e)) (hi : P.info? e = some i) (hz : i.zero = some (.int .u8 0)) (hsize : i.size = 1) (hby : i.bytes = 1)
    (v : Value) (n : Nat) (ys : List Int) (hs : a.eval s = v) (hown : w.ownsRow base e 1 v n (ys.map (Value.int .u8)))
    (xa : Option Addr) (m cap : Nat) (zs : List Int) (hx : a.eval x = .slice xa m cap) (hm : m = zs.length) (hr : Reads .u8 w xa zs)
    (N : Nat) (hN : n + m = N) (h63 : n + m ≤ maxLen) (hbytes : (n + m) * 1 ≤ 140737488355328) (hbase : base ≤ w.heap.size)
    (h : ∀ av cv w', w'.ownsRow base e 1 (.slice av N cv) N ((ys ++ zs).map (Value.int .u8)) → Kept (fun b => v.ownBlock = some b) w w' → K (a.put o.dst (.slice av N cv)) w') :
    if Region.wanted o (yielded ops a.tmps) = true then Oper.wp P o a w K Q else E := by
  have hw : Region.wanted o (yielded ops a.tmps) = true := by simp [Region.wanted, hgd]
  rw [if_pos hw]
  cases xa with
  | some ad =>
    refine wp_append_own w s x t ho base e i (.int .u8 0) 1 1 hu hi hz hsize hby rfl (by decide) v n _ hs hown ad m cap (zs.map (Value.int .u8)) hx (by simp [hm]) (fun j u hj => ?_) (ints_one _ _) h63 hbytes hbase fun v' w' h2 h3 _ => ?_
    · have h0 : zs ≠ [] := fun e => by subst e; simp at hj
      obtain ⟨b, off, e1, hb, hc⟩ := hr h0
      simp only [Option.some.injEq] at e1
      subst e1
      exact reads_news hc j u hj
    · rw [← List.map_append, hN] at h2
      obtain ⟨av, cv, rfl⟩ := ownsRow_shape h2
      exact h av cv w' h2 ⟨h3.os, h3.tape, h3.output, h3.size, fun q hq hn => h3.block q hq (fun e => hn e.symm)⟩
  | none =>
    have h0 : zs = [] := by
      by_cases h0 : zs = []
      · exact h0
      · obtain ⟨b, off, e1, _⟩ := hr h0; cases e1
    subst h0
    simp only [List.length_nil] at hm
    subst hm
    rw [Nat.add_zero] at hN
    subst hN
    obtain ⟨av, cv, rfl⟩ := ownsRow_shape hown
    have hc : n ≤ cv := ownsRow_cap hown
    have hrun : (Builtin.append_ #[t, t] o.type #[.slice av n cv, .slice none 0 cap]).run P w = .ok (.slice av n cv) w := by
      rcases hown.2 with ⟨h1, h2⟩ | ⟨g, cap', cur, h1, _⟩
      · simp only [Value.slice.injEq] at h1
        obtain ⟨rfl, rfl, rfl⟩ := h1
        simp [Builtin.append_, run_underlying hu, sizeOf, typeInfo, hi, Builtin.lenOf, Builtin.firstCells]
      · simp only [Value.slice.injEq] at h1
        obtain ⟨rfl, -, rfl⟩ := h1
        simp [Builtin.append_, run_underlying hu, sizeOf, typeInfo, hi, Builtin.lenOf, Builtin.firstCells, storeCells, hc]
    unfold Oper.wp execOp
    simp only [ho, resolve, invoke, builtin, Sem.run_bind, Sem.run_pure, Result.andThen_ok, List.map_toArray, List.map_cons, List.map_nil, hs, hx, hrun]
    exact h _ _ w (by simpa using hown) (Kept.refl _ _)

set_option maxRecDepth 100000 in
set_option maxHeartbeats 1600000 in
theorem l14Fault_any (b : Nat) (sa la : Option Addr) (sc lc : Nat) (S L : List Int) (w : World) (hT : Two w b (.slice sa S.length sc) (.slice la L.length lc)) (h : RdL' w sa sc S la lc L) :
    Calls Try.prog 14 #[.pointer (some ⟨b, 0, none⟩)] w fun e w' => e = .returned (.int .i64 (logF S L)) ∧ Below w.heap.size w w' := by
  have T0 := hide hT
  have hsl := h.slen
  have hll := h.llen
  have C1 := hide (fun (u : World) (hb : Below w.heap.size w u) => l14Read_any sa sc S.length S u (h.sure.below hb) h.su8 h.scap h.slen rfl)
  have C2 := hide (fun (u : World) (hb : Below w.heap.size w u) => l14Read_any la lc L.length L u (h.loose.below hb) h.lu8 h.lcap h.llen rfl)
  by_cases hb : 2000 < S.length + L.length
  · rw [logF_many hb]
    have hd : (2000 : Int) < (S.length : Int) + (L.length : Int) := by omega
    obtain ⟨t0, t1⟩ := T0.out
    clear h hT C1 C2 hb
    go_enter Try.func14, Try.ntmps14
    go_wp2_with fail
    go_quiet (fail)
    go_wp2_with fail
    go_ret
    exact ⟨rfl, below_dn _ nq⟩
  · have HF : Hid (logF S L = if (wholeZ S && wholeZ L) = true then 0 else 5) := hide (if_pos (by omega))
    have hd : ¬ (2000 : Int) < (S.length : Int) + (L.length : Int) := by omega
    have hws : wholeZ S = ((endL (lines S) : Int) == (S.length : Int)) := by unfold wholeZ; rw [Bool.eq_iff_iff]; simp; omega
    have hwl : wholeZ L = ((endL (lines L) : Int) == (L.length : Int)) := by unfold wholeZ; rw [Bool.eq_iff_iff]; simp; omega
    generalize logF S L = F at *
    rw [hws, hwl] at HF
    clear h hT hb hws hwl
    obtain ⟨t0, t1⟩ := T0.out
    go_enter Try.func14, Try.ntmps14
    go_wp2_with fail
    go_quiet (fail)
    have B1 := hide (below_dn w nq)
    have T1 := hide (T0.out.below B1.out)
    clear t0 t1
    generalize w.drewN nq = w1 at *
    obtain ⟨t0, t1⟩ := T1.out
    go_wp2_with fail
    refine (C1.out _ B1.out).mono ?_
    rintro e w2 ⟨va, vc, rfl, -, hb2⟩
    have B2 := hide (below_next B1.out hb2)
    have T2 := hide (T1.out.below hb2)
    clear hb2 t0 t1 B1 T1
    obtain ⟨t0, t1⟩ := T2.out
    by_cases e1 : (endL (lines S) : Int) = (S.length : Int)
    · have e1' : ((endL (lines S) : Int) == (S.length : Int)) = true := beq_iff_eq.2 e1
      rw [e1', Bool.true_and] at HF
      generalize endL (lines S) = p at *
      have HE1 := hide e1
      clear e1
      go_wp2_with fail
      refine (C2.out _ B2.out).mono ?_
      rintro e w3 ⟨vb, vd, rfl, -, hb3⟩
      have B3 := hide (below_next B2.out hb3)
      have T3 := hide (T2.out.below hb3)
      clear hb3 t0 t1 B2 T2
      obtain ⟨t0, t1⟩ := T3.out
      by_cases e2 : (endL (lines L) : Int) = (L.length : Int)
      · have e2' : ((endL (lines L) : Int) == (L.length : Int)) = true := beq_iff_eq.2 e2
        have HF2 := hide (show F = 0 by rw [HF.out, e2']; rfl)
        generalize endL (lines L) = q at *
        clear e2 HF
        go_wp2_with fail
        go_ret
        exact ⟨ret_int HF2.out.symm, B3.out⟩
      · have e2' : ((endL (lines L) : Int) == (L.length : Int)) = false := beq_eq_false_iff_ne.2 e2
        have HF2 := hide (show F = 5 by rw [HF.out, e2']; rfl)
        generalize endL (lines L) = q at *
        clear e2 HF
        go_wp2_with fail
        go_ret
        exact ⟨ret_int HF2.out.symm, B3.out⟩
    · have e1' : ((endL (lines S) : Int) == (S.length : Int)) = false := beq_eq_false_iff_ne.2 e1
      rw [e1', Bool.false_and] at HF
      have HF2 := hide (show F = 5 by rw [HF.out]; rfl)
      generalize endL (lines S) = p at *
      clear e1 HF
      go_wp2_with fail
      go_ret
      exact ⟨ret_int HF2.out.symm, B2.out⟩
end Go.Proofs.Ytpikgmbjgfdcfab

namespace Go.Proofs.Ytpikgmbjgfdcfab
open Go.RowKit
set_option linter.unusedVariables false

theorem made_zero (w : World) (e : TypeId) (base g : Nat) (hb : base ≤ w.heap.size) (hg : g = w.heap.size) : (w.alloc (.cells #[] e)).ownsRow base e 1 (.slice (some ⟨g, 0, none⟩) 0 0) 0 (([] : List Int).map (Value.int .u8)) := by
  subst hg
  exact ownsRow_mono (World.ownsRow_made (base := w.heap.size) (e := e) (size := 1) w #[] 0 (Nat.le_refl _) (Nat.zero_le _) rfl) hb
theorem Box4r.kept {S : Nat → Prop} {w w' : World} {b : Nat} {u0 u1 u2 u3 : Value} (h : Box4r w b u0 u1 u2 u3) (hk : Kept S w w') (hn : ¬ S b) : Box4r w' b u0 u1 u2 u3 := by
  obtain ⟨⟨h0, h1, h2, h3⟩, hf⟩ := h
  have hb : b < w.heap.size := World.block_lt_of_cell? w ⟨b, 0, none⟩ h0
  exact ⟨⟨(hk.cell (p := ⟨b, 0, none⟩) hb hn).trans h0, (hk.cell (p := ⟨b, 1, none⟩) hb hn).trans h1, (hk.cell (p := ⟨b, 2, none⟩) hb hn).trans h2, (hk.cell (p := ⟨b, 3, none⟩) hb hn).trans h3⟩, fun i => (hk.frozen (p := ⟨b, i, none⟩) hb hn).trans (hf i)⟩
theorem tk' {P : Program} {ops : Array Oper} {Q : Exit → Act → World → Prop} {md : Region.Mode} {S : World → Prop} (i d : Nat) (v : Value) {op : Op} {ty : TypeId} {pos : String} {af : Array Edge} {gd : Option (Nat × Bool)} {fuel : Nat} {listed : Array Bool} {a : Act} {w : World} (hS : S w) (hi : ops[i]? = some { dst := some d, op := op, type := ty, pos := pos, after := af, guard := gd })
    (hs : Region.noSelect ops = true) (hf : Region.free md ops listed i = true) (hr : (Region.ready md ops listed).contains i = true) (hQ : ∀ c a w, Q (.panic c) (a.put (some d) v) w → Q (.panic c) a w) (hy : YieldsIf P ops S { dst := some d, op := op, type := ty, pos := pos, after := af, guard := gd } v a)
    (h : wpAnyH P md ops Q S fuel (listed.setIfInBounds i true) (a.put (some d) v) w) : wpAnyH P md ops Q S (fuel + 1) listed a w := wpAnyH_take hi hs hf hr hQ hy hS h
set_option maxRecDepth 100000 in
set_option maxHeartbeats 1600000 in
theorem l14Of_any (sa la : Option Addr) (sc lc : Nat) (S L : List Int) (w : World) (h : RdL' w sa sc S la lc L) :
    Calls Try.prog 17 #[.slice sa S.length sc, .slice la L.length lc] w (ResG' 0 (((lines S).length + (lines L).length : Nat) : Int) S L w) := by
  obtain ⟨i1, ki, kz0, kz1, kz2⟩ := info_parts Try.infoU8
  have A0 := hide (below_alloc w (.cells #[.int .i64 0, .int .i64 0, .slice none 0 0, .slice none 0 0] 28))
  have X0 := hide (Box4r.new w (.int .i64 0) (.int .i64 0) (.slice none 0 0) (.slice none 0 0) 28)
  have C1 := hide (fun (u : World) (hb : Below w.heap.size w u) => l14Read_any sa sc S.length S u (h.sure.below hb) h.su8 h.scap h.slen rfl)
  have C2 := hide (fun (u : World) (hb : Below w.heap.size w u) => l14Read_any la lc L.length L u (h.loose.below hb) h.lu8 h.lcap h.llen rfl)
  have hc1 := lines_count S
  have hc2 := lines_count L
  have hsl := h.slen
  have hll := h.llen
  have R1 := hide (fun (u : World) (hb : Below w.heap.size w u) => h.sure.below hb)
  have R2 := hide (fun (u : World) (hb : Below w.heap.size w u) => h.loose.below hb)
  have hm1 : 0 + S.length ≤ maxLen := by unfold maxLen; omega
  have hm2 : (0 + S.length) * 1 ≤ 140737488355328 := by omega
  have hm3 : 0 + L.length ≤ maxLen := by unfold maxLen; omega
  have hm4 : (0 + L.length) * 1 ≤ 140737488355328 := by omega
  generalize (lines S).length = p at *
  generalize (lines L).length = q at *
  clear h
  go_enter Try.func17, Try.ntmps17
  go_wp2_with fail
  refine (C1.out _ A0.out).mono ?_
  rintro e w1 ⟨va, vc, rfl, -, hb1⟩
  have B1 := hide (below_next A0.out hb1)
  have X1 := hide (X0.out.below hb1)
  clear hb1 X0
  go_wp2_with fail
  refine (C2.out _ B1.out).mono ?_
  rintro e w2 ⟨vb, vd, rfl, -, hb2⟩
  have B2 := hide (below_next B1.out hb2)
  have X2 := hide (X1.out.below hb2)
  have hs2 : w.heap.size + 1 ≤ w2.heap.size := by have := X2.out; have := World.block_lt_of_cell? w2 ⟨w.heap.size, 0, none⟩ this.1.1; exact this
  clear hb2 X1 B1
  have A2 := hide (below_alloc w2 (.cells #[] 5))
  go_wp2_with (first
    | (at_builtin; refine wpList_app_rd rfl (.tmp 24) (.tmp 25) 22 rfl w2.heap.size 5 i1 Try.underlying22 ki kz0 kz1 kz2 _ 0 [] rfl (made_zero w2 _ _ _ (Nat.le_refl _) rfl) sa _ sc S rfl rfl (R1.out _ (below_next B2.out A2.out)) _ rfl hm1 hm2 (by simp) ?_; intro av cv w3 ho3 hk3; have O3 := hide ho3; have K3 := hide (show Kept (fun b => some w2.heap.size = some b) _ w3 from hk3); clear ho3 hk3; have B3 := hide ((below_next B2.out A2.out).trans (K3.out.below (B := w.heap.size) (by simp; omega) (fun k hk e => by simp at e; omega))); have hs3 : w2.heap.size + 1 ≤ w3.heap.size := (by have := K3.out.size; simpa using this); have X3 := hide ((X2.out.below A2.out).kept K3.out (by simp; omega)); have A3 := hide (below_alloc w3 (.cells #[] 5)))
    | (at_builtin; refine wpList_app_rd rfl (.tmp 27) (.tmp 28) 22 rfl w3.heap.size 5 i1 Try.underlying22 ki kz0 kz1 kz2 _ 0 [] rfl (made_zero w3 _ _ _ (Nat.le_refl _) rfl) la _ lc L rfl rfl (R2.out _ (below_next B3.out A3.out)) _ rfl hm3 hm4 (by simp) ?_; intro bv dv w4 ho4 hk4; have O4 := hide ho4; have K4 := hide (show Kept (fun b => some w3.heap.size = some b) _ w4 from hk4); clear ho4 hk4; have hs4 : w3.heap.size + 1 ≤ w4.heap.size := (by have := K4.out.size; simpa using this); have X4 := hide ((X3.out.below A3.out).kept K4.out (by simp; omega)); obtain ⟨⟨y0, y1, y2, y3⟩, yf⟩ := X4.out; have yf0 := yf 0; have yf1 := yf 1; have yf2 := yf 2; have yf3 := yf 3; clear yf)
    | fail)
  have B4 := hide ((below_next B3.out A3.out).trans (K4.out.below (B := w.heap.size) (by simp; omega) (fun k hk e => by simp at e; omega)))
  have G3 : Hid (GB w2.heap.size w3.heap.size w3 (.slice av S.length cv) S) := hide (GB.mk (by simpa using O3.out) rfl)
  have G4 : Hid (GB w3.heap.size w4.heap.size w4 (.slice bv L.length dv) L) := hide (GB.mk (by simpa using O4.out) rfl)
  have G3' := hide (((G3.out.below A3.out).kept K4.out (fun b h1 h2 e => by simp at e; omega)).kept (S := fun b => b = w.heap.size) (Kept.four4 w4 w.heap.size (.int .i64 0) (.int .i64 ((p + q : Nat) : Int)) (.slice av S.length cv) (.slice bv L.length dv)) (fun b h1 h2 e => by omega))
  have G4' := hide (G4.out.kept (S := fun b => b = w.heap.size) (Kept.four4 w4 w.heap.size (.int .i64 0) (.int .i64 ((p + q : Nat) : Int)) (.slice av S.length cv) (.slice bv L.length dv)) (fun b h1 h2 e => by omega))
  go_wp2_with fail
  refine bodyPost_ret (v := .agg #[.int .i64 0, .int .i64 ((p + q : Nat) : Int), .slice av S.length cv, .slice bv L.length dv]) (by simp [results, Try.results17, go_sem, y0, y1, y2, y3]) rfl ⟨av, cv, bv, dv, w3.heap.size, rfl, ?_, ?_, by omega, by simp; omega, below_four B4.out (by omega) _ _ _ _⟩
  · exact G3'.out.low (by omega)
  · exact ⟨G4'.out.1, fun x hx => by have := G4'.out.2 x hx; simp; omega⟩
end Go.Proofs.Ytpikgmbjgfdcfab

namespace Go.Proofs.Ytpikgmbjgfdcfab
open Go.RowKit
set_option linter.unusedVariables false

set_option maxRecDepth 100000 in
set_option maxHeartbeats 400000 in
theorem implCrashLog_bad (sa la : Option Addr) (sc lc : Nat) (S L : List Int) (k : Int) (w : World) (h : RdL' w sa sc S la lc L) (h0 : logF S L ≠ 0) :
    Calls Try.prog 7 #[.agg #[.slice sa S.length sc, .slice la L.length lc], .int .i64 k] w (ResG' (logF S L) 0 [] [] w) := by
  have A0 := hide (below_alloc w (.cells #[.slice sa S.length sc, .slice la L.length lc] 26))
  have A1 := hide (below_alloc (w.alloc (.cells #[.slice sa S.length sc, .slice la L.length lc] 26)) (.cells #[.int .i64 0, .int .i64 0, .slice none 0 0, .slice none 0 0] 28))
  have B0 := hide (below_next A0.out A1.out)
  have T0 := hide ((Two.new w (.slice sa S.length sc) (.slice la L.length lc) 26).below A1.out)
  have X4 := hide (Box4r.new (w.alloc (.cells #[.slice sa S.length sc, .slice la L.length lc] 26)) (.int .i64 0) (.int .i64 0) (.slice none 0 0) (.slice none 0 0) 28)
  rw [show (w.alloc (.cells #[.slice sa S.length sc, .slice la L.length lc] 26)).heap.size = w.heap.size + 1 by simp] at X4
  have HZ2 := hide (show ((w.alloc (.cells #[.slice sa S.length sc, .slice la L.length lc] 26)).alloc (.cells #[.int .i64 0, .int .i64 0, .slice none 0 0, .slice none 0 0] 28)).heap.size = w.heap.size + 2 by simp)
  have HF := hide (fun (u : World) (hb : Below w.heap.size w u) => implLogFault_any sa la sc lc S L u (h.below hb))
  have hne : (logF S L == 0) = false := beq_eq_false_iff_ne.2 h0
  generalize logF S L = F at *
  have HR := hide h
  clear h h0
  go_enter Try.func7, Try.ntmps7
  obtain ⟨t0, t1⟩ := T0.out
  go_wp2_with fail
  refine (HF.out _ B0.out).mono ?_
  rintro e w1 ⟨rfl, hb1⟩
  clear t0 t1
  generalize (w.alloc (.cells #[.slice sa S.length sc, .slice la L.length lc] 26)).alloc (.cells #[.int .i64 0, .int .i64 0, .slice none 0 0, .slice none 0 0] 28) = W0 at *
  have hs1 : w.heap.size + 2 ≤ w1.heap.size := by have := hb1.size; have := HZ2.out; omega
  have B1 := hide (below_next B0.out hb1)
  have X1 := hide (X4.out.below hb1)
  have T1 := hide (T0.out.below hb1)
  clear hb1 X4 T0 A1 A0
  obtain ⟨⟨y0, y1, y2, y3⟩, yf⟩ := X1.out
  have yf0 := yf 0
  have yf1 := yf 1
  have yf2 := yf 2
  have yf3 := yf 3
  clear yf
  go_wp2_with fail
  refine bodyPost_ret (v := .agg #[.int .i64 F, .int .i64 0, .slice none 0 0, .slice none 0 0]) (by simp [results, Try.results7, go_sem, y0, y1, y2, y3]) rfl ⟨none, 0, none, 0, w.heap.size, rfl, GB.void _ _ _, GB.void _ _ _, Nat.le_refl _, by simp; omega, below_four B1.out (by omega) _ _ _ _⟩
set_option maxRecDepth 100000 in
set_option maxHeartbeats 400000 in
theorem implCrashLog_range (sa la : Option Addr) (sc lc : Nat) (S L : List Int) (k : Int) (w : World) (h : RdL' w sa sc S la lc L) (h0 : logF S L = 0) (hk : k < 0 ∨ (L.length : Int) < k) :
    Calls Try.prog 7 #[.agg #[.slice sa S.length sc, .slice la L.length lc], .int .i64 k] w (ResG' 3 0 [] [] w) := by
  have A0 := hide (below_alloc w (.cells #[.slice sa S.length sc, .slice la L.length lc] 26))
  have A1 := hide (below_alloc (w.alloc (.cells #[.slice sa S.length sc, .slice la L.length lc] 26)) (.cells #[.int .i64 0, .int .i64 0, .slice none 0 0, .slice none 0 0] 28))
  have B0 := hide (below_next A0.out A1.out)
  have T0 := hide ((Two.new w (.slice sa S.length sc) (.slice la L.length lc) 26).below A1.out)
  have X4 := hide (Box4r.new (w.alloc (.cells #[.slice sa S.length sc, .slice la L.length lc] 26)) (.int .i64 0) (.int .i64 0) (.slice none 0 0) (.slice none 0 0) 28)
  rw [show (w.alloc (.cells #[.slice sa S.length sc, .slice la L.length lc] 26)).heap.size = w.heap.size + 1 by simp] at X4
  have HZ2 := hide (show ((w.alloc (.cells #[.slice sa S.length sc, .slice la L.length lc] 26)).alloc (.cells #[.int .i64 0, .int .i64 0, .slice none 0 0, .slice none 0 0] 28)).heap.size = w.heap.size + 2 by simp)
  have HF := hide (fun (u : World) (hb : Below w.heap.size w u) => implLogFault_any sa la sc lc S L u (h.below hb))
  rw [h0] at HF
  have HR := hide h
  clear h h0
  go_enter Try.func7, Try.ntmps7
  obtain ⟨t0, t1⟩ := T0.out
  go_wp2_with fail
  refine (HF.out _ B0.out).mono ?_
  rintro e w1 ⟨rfl, hb1⟩
  clear t0 t1
  generalize (w.alloc (.cells #[.slice sa S.length sc, .slice la L.length lc] 26)).alloc (.cells #[.int .i64 0, .int .i64 0, .slice none 0 0, .slice none 0 0] 28) = W0 at *
  have hs1 : w.heap.size + 2 ≤ w1.heap.size := by have := hb1.size; have := HZ2.out; omega
  have B1 := hide (below_next B0.out hb1)
  have X1 := hide (X4.out.below hb1)
  have T1 := hide (T0.out.below hb1)
  clear hb1 X4 T0 A1 A0
  obtain ⟨⟨y0, y1, y2, y3⟩, yf⟩ := X1.out
  have yf0 := yf 0
  have yf1 := yf 1
  have yf2 := yf 2
  have yf3 := yf 3
  clear yf
  obtain ⟨t0, t1⟩ := T1.out
  rcases hk with hk | hk
  · have hd : decide (k < 0) = true := decide_eq_true hk
    go_wp2_with fail
    refine bodyPost_ret (v := .agg #[.int .i64 3, .int .i64 0, .slice none 0 0, .slice none 0 0]) (by simp [results, Try.results7, go_sem, y0, y1, y2, y3]) rfl ⟨none, 0, none, 0, w.heap.size, rfl, GB.void _ _ _, GB.void _ _ _, Nat.le_refl _, by simp; omega, below_four B1.out (by omega) _ _ _ _⟩
  · have hd : decide (k < 0) = false := decide_eq_false (by omega)
    have hd2 : decide ((L.length : Int) < k) = true := decide_eq_true hk
    have hk0 : ¬ k < 0 := by omega
    go_wp2_with fail
    refine bodyPost_ret (v := .agg #[.int .i64 3, .int .i64 0, .slice none 0 0, .slice none 0 0]) (by simp [results, Try.results7, go_sem, y0, y1, y2, y3]) rfl ⟨none, 0, none, 0, w.heap.size, rfl, GB.void _ _ _, GB.void _ _ _, Nat.le_refl _, by simp; omega, below_four B1.out (by omega) _ _ _ _⟩
theorem crash_eq {S L : List Int} (h0 : logF S L = 0) (k : Nat) : lines (S ++ L.take k) = lines S ++ lines (L.take k) ∧ S ++ flatL (lines (L.take k)) = flatL (lines (S ++ L.take k)) ∧ lines (S ++ flatL (lines (L.take k))) = lines (S ++ L.take k) := by
  obtain ⟨-, hS, -⟩ := logF_zero h0
  have e1 := lines_app hS (L.take k)
  have g := (lines_good _ (L.take k) (Nat.le_refl _)).1
  have e2 : S ++ flatL (lines (L.take k)) = flatL (lines (S ++ L.take k)) := by
    rw [e1]
    conv => lhs; rw [(whole_iff hS).1]
    simp [flatL]
  exact ⟨e1, e2, by rw [lines_app hS, lines_of_flat g, e1]⟩
def crashZ (S L : List Int) (k : Nat) : List Int := flatL (lines (S ++ L.take k))
set_option maxRecDepth 100000 in
set_option maxHeartbeats 800000 in
theorem implCrashLog_ok (sa la : Option Addr) (sc lc : Nat) (S L : List Int) (kk : Nat) (w : World) (h : RdL' w sa sc S la lc L) (h0 : logF S L = 0) (hk : kk ≤ L.length) :
    Calls Try.prog 7 #[.agg #[.slice sa S.length sc, .slice la L.length lc], .int .i64 (kk : Int)] w (ResG' 0 ((lines (S ++ L.take kk)).length : Nat) (crashZ S L kk) [] w) := by
  have hsz := (logF_zero h0).1
  obtain ⟨ce1, ce2, ce3⟩ := crash_eq h0 kk
  have hkl : (L.take kk).length = kk := by rw [List.length_take]; omega
  have hel := end_le (L.take kk)
  obtain ⟨Z, hZ⟩ : ∃ Z, crashZ S L kk = Z := ⟨_, rfl⟩
  have hZ2 : S ++ (L.take kk).take (endL (lines (L.take kk))) = Z := by rw [take_end, ce2]; exact hZ
  have hZU : U8 Z := hZ2 ▸ u8_app h.su8 (u8_take (u8_take h.lu8 _) _)
  have hzl : Z.length ≤ 2000 := by rw [← hZ2, List.length_append, List.length_take]; omega
  have hlz : lines (S ++ L.take kk) = lines Z := by rw [← hZ2, take_end]; exact ce3.symm
  rw [hZ, hlz]
  have HWL : Hid (∀ (u : World) (p : Option Addr), Below w.heap.size w u → Reads .u8 u p (L.take kk) → Calls Try.prog 22 #[.slice p kk lc] u fun e w' => ∃ a' c', e = .returned (.slice a' (endL (lines (L.take kk))) c') ∧ (∀ v, Reads .u8 v p (L.take kk) → Reads .u8 v a' ((L.take kk).take (endL (lines (L.take kk))))) ∧ Below u.heap.size u w') := hide (fun u p hb hr => by
    have := wholeLines_any p lc (L.take kk) u hr (u8_take h.lu8 _) (by rw [hkl]; have := h.lcap; omega) (by rw [hkl]; omega)
    rw [hkl] at this
    exact this)
  have HLT := hide (fun (u : World) (p : Option Addr) (hr : Reads .u8 u p L) => show Reads .u8 u p (L.take kk) from fun hne => by
    obtain ⟨b, off, rfl, hb, hc⟩ := hr (fun e => hne (by simp [e]))
    refine ⟨b, off, rfl, hb, fun i hi => ?_⟩
    rw [List.length_take] at hi
    rw [hc i (by omega)]
    simp only [List.getD_eq_getElem?_getD, List.getElem?_take]
    rw [if_pos (by omega)])
  have HJ : Hid (∀ (u : World) (p : Option Addr) (c g : Nat), Below w.heap.size w u → (∀ v, Below w.heap.size w v → Reads .u8 v p ((L.take kk).take (endL (lines (L.take kk))))) → u.cell? ⟨g, 0, none⟩ = some (.slice sa S.length sc) → u.cell? ⟨g, 1, none⟩ = some (.slice p (endL (lines (L.take kk))) c) → Calls Try.prog 21 #[.slice (some ⟨g, 0, none⟩) 2 2] u fun e w' => ∃ a' c', e = .returned (.slice a' Z.length c') ∧ GB u.heap.size w'.heap.size w' (.slice a' Z.length c') Z ∧ Below u.heap.size u w') := hide (fun u p c g hb hr h1 h2 => by
    have hl : ((L.take kk).take (endL (lines (L.take kk)))).length = endL (lines (L.take kk)) := by rw [List.length_take]; omega
    exact join2_any sa p sc c S _ Z g u hZ2 h1 (by rw [hl]; exact h2) (h.sure.below hb) (hr u hb) (by rw [hl]; omega))
  have hlc : kk ≤ lc := by have := h.lcap; omega
  have HZU := hide hZU
  have hE : endL (lines (L.take kk)) ≤ kk := by omega
  generalize endL (lines (L.take kk)) = E at *
  clear ce1 ce2 ce3 hZ hZ2 hZU hlz hkl hel
  have A0 := hide (below_alloc w (.cells #[.slice sa S.length sc, .slice la L.length lc] 26))
  have A1 := hide (below_alloc (w.alloc (.cells #[.slice sa S.length sc, .slice la L.length lc] 26)) (.cells #[.int .i64 0, .int .i64 0, .slice none 0 0, .slice none 0 0] 28))
  have B0 := hide (below_next A0.out A1.out)
  have T0 := hide ((Two.new w (.slice sa S.length sc) (.slice la L.length lc) 26).below A1.out)
  have X4 := hide (Box4r.new (w.alloc (.cells #[.slice sa S.length sc, .slice la L.length lc] 26)) (.int .i64 0) (.int .i64 0) (.slice none 0 0) (.slice none 0 0) 28)
  rw [show (w.alloc (.cells #[.slice sa S.length sc, .slice la L.length lc] 26)).heap.size = w.heap.size + 1 by simp] at X4
  have HZ2 := hide (show ((w.alloc (.cells #[.slice sa S.length sc, .slice la L.length lc] 26)).alloc (.cells #[.int .i64 0, .int .i64 0, .slice none 0 0, .slice none 0 0] 28)).heap.size = w.heap.size + 2 by simp)
  have HF := hide (fun (u : World) (hb : Below w.heap.size w u) => implLogFault_any sa la sc lc S L u (h.below hb))
  rw [h0] at HF
  have HR := hide h
  clear h h0
  go_enter Try.func7, Try.ntmps7
  obtain ⟨t0, t1⟩ := T0.out
  go_wp2_with fail
  refine (HF.out _ B0.out).mono ?_
  rintro e w1 ⟨rfl, hb1⟩
  clear t0 t1
  generalize (w.alloc (.cells #[.slice sa S.length sc, .slice la L.length lc] 26)).alloc (.cells #[.int .i64 0, .int .i64 0, .slice none 0 0, .slice none 0 0] 28) = W0 at *
  have hs1 : w.heap.size + 2 ≤ w1.heap.size := by have := hb1.size; have := HZ2.out; omega
  have B1 := hide (below_next B0.out hb1)
  have X1 := hide (X4.out.below hb1)
  have T1 := hide (T0.out.below hb1)
  clear hb1 X4 T0 A1 A0
  obtain ⟨t0, t1⟩ := T1.out
  have hd : decide ((kk : Int) < 0) = false := decide_eq_false (by omega)
  have hd2 : decide ((L.length : Int) < (kk : Int)) = false := decide_eq_false (by omega)
  have hd3 : ¬ ((L.length : Int) < (kk : Int)) := by omega
  cases la with
  | none =>
    obtain rfl : kk = 0 := by
      by_cases hne : L = []
      · subst hne; simpa using hk
      · obtain ⟨_, _, e, _⟩ := HR.out.loose hne; cases e
    have KB := hide (fun (u : World) (hb : Below w1.heap.size w1 u) => T1.out.below hb)
    unfold Two at KB
    go_wp2_with fail
    obtain ⟨k0, k1⟩ := KB.out w1 (Below.refl _ _)
    clear t0 t1
    go_region_held3 (fun u => u.cell? ⟨w.heap.size, 0, none⟩ = some (.slice sa S.length sc) ∧ u.cell? ⟨w.heap.size, 1, none⟩ = some (.slice none L.length lc)) (first | exact KB.out _ BB3.out | exact KB.out _ BB2.out | exact KB.out _ (below_next BB1.out (below_alloc _ _)) | exact KB.out _ BB1.out | exact KB.out _ (Below.refl _ _).drew | go_keep)
      ((first
        | (go_at_call 22; refine (HWL.out _ _ (below_next B1.out (Below.refl _ _).drew) (HLT.out _ _ (HR.out.loose.below (below_next B1.out (Below.refl _ _).drew)))).mono ?_; rintro r wr1 ⟨wa, wc, rfl, hr6, hb6⟩; have BB1 := hide ((Below.refl w1.heap.size w1).drew.trans hb6); have R6 := hide hr6; clear hr6 hb6)
        | (go_at_call 21; refine (HJ.out _ wa wc _ (below_next B1.out (below_next BB1.out (below_alloc _ _))) (fun v hv => R6.out v (HLT.out _ _ (HR.out.loose.below hv))) (by simp) (by simp)).mono ?_; rintro r wr2 ⟨ja, jc, rfl, hg7, hb7⟩; have BB2 := hide (below_next BB1.out (below_next (below_alloc _ _) hb7)); have hs7 : wr1.heap.size + 1 ≤ wr2.heap.size := (by have := hb7.size; simpa using this); have HG7 := hide (hg7.low (B' := wr1.heap.size + 1) (by simp)); have hjc : Z.length ≤ jc := ownsRow_cap hg7.1; clear hg7 hb7)
        | (go_at_call 20; refine (counted1_any ja jc Z _ HG7.out.own.reads HZU.out hjc (by omega)).mono ?_; rintro r wr3 ⟨rfl, hb8⟩; have BB3 := hide (below_next BB2.out hb8); have HG8 := hide (HG7.out.below hb8); have hs8 := hb8.size; clear hb8; obtain ⟨⟨y0, y1, y2, y3⟩, yf⟩ := X1.out.below BB3.out; have yf0 := yf 0; have yf1 := yf 1; have yf2 := yf 2; have yf3 := yf 3; clear yf)))
    generalize (lines Z).length = k at *
    have hs6 : w1.heap.size ≤ wr1.heap.size := BB1.out.size
    have B3 := hide (below_next B1.out BB3.out)
    go_wp2_with fail
    refine bodyPost_ret (v := .agg #[.int .i64 0, .int .i64 (k : Int), .slice ja Z.length jc, .slice none 0 0]) (by simp [results, Try.results7, go_sem, y0, y1, y2, y3]) rfl ⟨ja, jc, none, 0, wr2.heap.size, rfl, ?_, GB.void _ _ _, by omega, by simp; omega, below_four B3.out (by omega) _ _ _ _⟩
    exact (HG8.out.kept (S := fun b => b = w.heap.size + 1) (Kept.four4 wr3 (w.heap.size + 1) _ _ _ _) (fun b h1 h2 e => by omega)).low (by omega)
  | some ad =>
    have KB := hide (fun (u : World) (hb : Below w1.heap.size w1 u) => T1.out.below hb)
    unfold Two at KB
    go_wp2_with fail
    obtain ⟨k0, k1⟩ := KB.out w1 (Below.refl _ _)
    clear t0 t1
    go_region_held3 (fun u => u.cell? ⟨w.heap.size, 0, none⟩ = some (.slice sa S.length sc) ∧ u.cell? ⟨w.heap.size, 1, none⟩ = some (.slice (some ad) L.length lc)) (first | exact KB.out _ BB3.out | exact KB.out _ BB2.out | exact KB.out _ (below_next BB1.out (below_alloc _ _)) | exact KB.out _ BB1.out | exact KB.out _ (Below.refl _ _).drew | go_keep)
      ((first
        | (go_at_call 22; refine (HWL.out _ _ (below_next B1.out (Below.refl _ _).drew) (HLT.out _ _ (HR.out.loose.below (below_next B1.out (Below.refl _ _).drew)))).mono ?_; rintro r wr1 ⟨wa, wc, rfl, hr6, hb6⟩; have BB1 := hide ((Below.refl w1.heap.size w1).drew.trans hb6); have R6 := hide hr6; clear hr6 hb6)
        | (go_at_call 21; refine (HJ.out _ wa wc _ (below_next B1.out (below_next BB1.out (below_alloc _ _))) (fun v hv => R6.out v (HLT.out _ _ (HR.out.loose.below hv))) (by simp) (by simp)).mono ?_; rintro r wr2 ⟨ja, jc, rfl, hg7, hb7⟩; have BB2 := hide (below_next BB1.out (below_next (below_alloc _ _) hb7)); have hs7 : wr1.heap.size + 1 ≤ wr2.heap.size := (by have := hb7.size; simpa using this); have HG7 := hide (hg7.low (B' := wr1.heap.size + 1) (by simp)); have hjc : Z.length ≤ jc := ownsRow_cap hg7.1; clear hg7 hb7)
        | (go_at_call 20; refine (counted1_any ja jc Z _ HG7.out.own.reads HZU.out hjc (by omega)).mono ?_; rintro r wr3 ⟨rfl, hb8⟩; have BB3 := hide (below_next BB2.out hb8); have HG8 := hide (HG7.out.below hb8); have hs8 := hb8.size; clear hb8; obtain ⟨⟨y0, y1, y2, y3⟩, yf⟩ := X1.out.below BB3.out; have yf0 := yf 0; have yf1 := yf 1; have yf2 := yf 2; have yf3 := yf 3; clear yf)))
    generalize (lines Z).length = k at *
    have hs6 : w1.heap.size ≤ wr1.heap.size := BB1.out.size
    have B3 := hide (below_next B1.out BB3.out)
    go_wp2_with fail
    refine bodyPost_ret (v := .agg #[.int .i64 0, .int .i64 (k : Int), .slice ja Z.length jc, .slice none 0 0]) (by simp [results, Try.results7, go_sem, y0, y1, y2, y3]) rfl ⟨ja, jc, none, 0, wr2.heap.size, rfl, ?_, GB.void _ _ _, by omega, by simp; omega, below_four B3.out (by omega) _ _ _ _⟩
    exact (HG8.out.kept (S := fun b => b = w.heap.size + 1) (Kept.four4 wr3 (w.heap.size + 1) _ _ _ _) (fun b h1 h2 e => by omega)).low (by omega)
end Go.Proofs.Ytpikgmbjgfdcfab

