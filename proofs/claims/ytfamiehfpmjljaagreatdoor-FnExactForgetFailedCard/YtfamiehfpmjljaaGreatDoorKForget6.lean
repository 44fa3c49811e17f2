/-
  Texts put together: FetC FetG PutC FetH FetT FetU FetK.
-/
import Derived.Test.YtfamiehfpmjljaaGreatDoorKForget3
import Derived.Test.YtfamiehfpmjljaaGreatDoorKForget5
import Derived.Deep.RegionHeld3
import Derived.Deep.RegionLaw
import Derived.Deep.CutRange
import Derived.Test.YtfamiehfpmjljaaGreatDoorKForget4
import Derived.Lib.SliceRun
import Derived.Deep.QuietTactic
namespace Go.Proofs.YtfamiehfpmjljaaGreatDoor
open Go.RowKit Go.Maps
set_option linter.unusedVariables false

set_option maxRecDepth 100000 in
set_option maxHeartbeats 1600000 in
theorem mapChunks_from (a : Option Addr) (c n : Nat) (D : Nat → Int) (P : Nat → List Int) (w0 w : World) (h : RdC w0 a D P n) (hb0 : Below w0.heap.size w0 w) (hR : RightC D P n) :
    Calls Tryz.prog 54 #[.slice a n c] w fun e w' => ∃ b, e = .returned (.map (some b)) ∧ w.heap.size ≤ b ∧ Holds w' b n (lst D P n) w0.heap.size ∧ Below w.heap.size w w' := by
  have HA := hide h
  have HR := hide hR
  have HB0 := hide hb0
  have hn := hR.many
  clear h hR hb0
  have hmm : ∀ u : World, (Instr.makeMap 92 (some (.int .i64 (n : Int)))).run Tryz.prog u = .ok (.map (some u.heap.size)) (u.alloc (.map #[] 0)) := fun u => by simp [Instr.makeMap, asInt, asIntOf, Result.andThen]
  go_enter Tryz.func54, Tryz.ntmps54
  go_wp2
  go_loopw [5, 11] (fun _ i wr => ∃ k : Nat, k ≤ n ∧ i = .int .i64 k ∧ Holds wr w.heap.size k (lst D P k) w0.heap.size ∧ Below w.heap.size w wr) (fun _ i _ => n - (intOf i).toNat)
  case atStart => exact ⟨0, Nat.zero_le _, rfl, Holds.made w _, below_alloc _ _⟩
  case round =>
    obtain ⟨k, hk, rfl, hH, hbel⟩ := hrel
    have HH := hide hH
    have HW := hide hbel
    have HWW := hide (below_next HB0.out hbel)
    clear hH hbel
    by_cases hlt : k < n
    · obtain ⟨b1, o1, A1, C1, rfl, hb1, hc1⟩ := HA.out (by omega)
      obtain ⟨c1, e1, r1⟩ := hc1 k hlt
      have c1 := (HWW.out.cell (p := ⟨b1, o1 + k * 2, none⟩) hb1).trans c1
      have e1 := (HWW.out.cell (p := ⟨b1, o1 + k * 2 + 1, none⟩) hb1).trans e1
      have hpos := (HR.out.u8len hlt).1
      have hT := r1.lt (by intro e; simp [e] at hpos)
      have r1 := r1.below HWW.out
      have hnew := HR.out.new hlt
      have hwf := HR.out.wf hlt
      have HS := hide (lst_succ D P k)
      generalize A1 k = a1 at e1 r1 hT
      generalize C1 k = d1 at e1
      generalize P k = xs at *
      generalize D k = dd at *
      generalize lst D P k = L at *
      obtain ⟨Dt, hown, hput⟩ := (HH.out.below (below_alloc wr (.cells #[.int .i64 dd, .slice a1 xs.length d1] 70))).put (c := d1) hnew (r1.below (below_alloc _ _)) hT
      have HO := hide hown
      have HPt := hide hput
      have HK := hide (key64 hwf)
      clear hc1 r1 hown hput hnew hwf hT hpos
      go_wp2_with (first | (at_mapUpdate; refine wpList_mapUpdate_own _ rfl _ _ _ 92 rfl 2 70 law64 Tryz.underlying92 RV w.heap.size k Dt rfl HO.out (by unfold maxLen; omega) _ _ _ rfl rfl HK.out (.held (chv dd a1 xs.length d1)) [] rfl ?_; intro w1 hown1 hgrow1; have HH1 := hide (HPt.out w1 hown1 hgrow1); have HG1 := hide hgrow1; clear hown1 hgrow1) | go_in)
      go_roundw
      case rel => exact ⟨k + 1, by omega, by go_num, by rw [HS.out]; exact HH1.out, (below_next HW.out (below_alloc _ _)).trans ((Kept.of_grown HG1.out).below (Nat.le_trans HW.out.size (by simp)) (fun j hj e => by omega))⟩
      case measure => simp [intOf]; omega
    · have hke : k = n := by omega
      subst hke
      go_wp2
      go_ret
      exact ⟨_, rfl, Nat.le_refl _, HH.out, HW.out⟩
def OwnF (B fb : Nat) (w : World) (W : List Wn) (F : List Int) (L : List Ch) : Prop :=
  ∃ wa wc ps fa fc bm N, Bx3 w fb (.slice wa W.length wc) (.slice fa F.length fc) (.map (some bm)) ∧ OwnP (fb + 1) w (.slice wa W.length wc) ps W ∧ (w.ownsRow B 2 1 (.slice fa F.length fc) F.length (F.map (Value.int .i64)) ∧ ∀ b, (Value.slice fa F.length fc).ownBlock = some b → b < fb) ∧ Holds w bm N L B ∧ (B ≤ bm ∧ bm < fb ∧ N ≤ 1000)
theorem news1 {w : World} {H : Nat} {u : Value} {t : TypeId} (hH : w.heap.size = H) : ∀ j x, [u][j]? = some x → (w.alloc (.cells #[u] t)).cell? ((⟨H, 0, none⟩ : Addr).add j) = some x := by
  intro j x hj
  have hj0 : j = 0 := by
    rcases Nat.eq_zero_or_pos j with h | h
    · exact h
    · rw [List.getElem?_eq_none (by simp; omega)] at hj; cases hj
  subst hj0
  subst hH
  obtain rfl : u = x := by simpa using hj
  have hadd : (⟨w.heap.size, 0, none⟩ : Addr).add 0 = ⟨w.heap.size, 0, none⟩ := by simp [Addr.add]
  rw [hadd]
  simp
set_option maxRecDepth 100000 in
set_option maxHeartbeats 6400000 in
theorem fetchingOf_any (wa : Option Addr) (wk : Nat) (W : List Wn) (fa : Option Addr) (fc : Nat) (F : List Int) (ca : Option Addr) (cc n : Nat) (D : Nat → Int) (P : Nat → List Int) (w : World) (h : RdF w wa W fa F ca D P n) (hR : RightC D P n) (hWl : W.length ≤ 1048576) (hFl : F.length ≤ 1048576) :
    Calls Tryz.prog 43 #[fetV wa W.length wk fa F.length fc ca n cc] w fun e w' => ∃ fb, e = .returned (.pointer (some ⟨fb, 0, none⟩)) ∧ OwnF w.heap.size fb w' W F (lst D P n) ∧ w.heap.size ≤ fb ∧ Below w.heap.size w w' := by
  obtain ⟨i1, ki, kz0, kz1, kz2⟩ := info_parts Tryz.infoPW
  have HC := hide h.chunks
  have HF := hide h.failed
  have HW := hide h.wants
  have HRt := hide hR
  have hnm : n ≤ 1000 := by have := hR.many; omega
  clear h hR
  have B0 := hide (below_alloc w (.cells #[.slice wa W.length wk, .slice fa F.length fc, .slice ca n cc] 28))
  have X0 := hide (Bx3.new w (.slice wa W.length wk) (.slice fa F.length fc) (.slice ca n cc) 28)
  unfold fetV
  go_enter Tryz.func43, Tryz.ntmps43
  obtain ⟨⟨t0, t1, t2⟩, t3, t4, t5⟩ := X0.out
  go_upto_region 1 with fail
  clear t0 t1 t2 t3 t4 t5
  generalize w.alloc (.cells #[.slice wa W.length wk, .slice fa F.length fc, .slice ca n cc] 28) = W0 at *
  have KB : Hid (∀ w' : World, Below W0.heap.size W0 w' → w'.cell? ⟨w.heap.size, 1, none⟩ = some (.slice fa F.length fc) ∧ w'.cell? ⟨w.heap.size, 2, none⟩ = some (.slice ca n cc)) := hide (fun w' hb' => ⟨(X0.out.below hb').1.2.1, (X0.out.below hb').1.2.2⟩)
  have HMP := hide (fun (u : World) (hu : Below W0.heap.size W0 u) => mapChunks_from ca cc n D P w u HC.out (below_next B0.out hu) HRt.out)
  have HCP := hide (fun (u : World) (hu : Below W0.heap.size W0 u) => copiedInts_any fa fc F.length F u (HF.out.below (below_next B0.out hu)) rfl hFl)
  have hsB := B0.out.size
  go_cut [3] from 6 to 13 (fun v3 wk' => ∃ fb av cv bm, v3 = .pointer (some ⟨fb, 0, none⟩) ∧ Hid (Bx3 wk' fb (.slice none 0 0) (.slice av F.length cv) (.map (some bm))) ∧ Hid (wk'.ownsRow w.heap.size 2 1 (.slice av F.length cv) F.length (F.map (Value.int .i64)) ∧ ∀ b, (Value.slice av F.length cv).ownBlock = some b → b < fb) ∧ Hid (Holds wk' bm n (lst D P n) w.heap.size) ∧ (w.heap.size ≤ bm ∧ bm < fb ∧ w.heap.size < fb ∧ wk'.heap.size = fb + 1) ∧ Hid (Below W0.heap.size W0 wk'))
  case first =>
    go_region_held3 (fun w' => w'.cell? ⟨w.heap.size, 1, none⟩ = some (.slice fa F.length fc) ∧ w'.cell? ⟨w.heap.size, 2, none⟩ = some (.slice ca n cc)) (first | exact KB.out _ BB2.out | exact KB.out _ BB1.out | exact KB.out _ (Below.refl _ _).drew | exact KB.out _ (below_next BB2.out (below_alloc _ _)) | go_keep)
      ((first
        | (go_at_call 54; refine (HMP.out _ (by first | exact BB1.out | exact (Below.refl _ _).drew)).mono ?_; rintro r w2 ⟨bm, rfl, hbm, hH1, hb1⟩; (first | (have BB2 := hide (below_next BB1.out hb1)) | (have BB1 := hide ((Below.refl W0.heap.size W0).drew.trans hb1))); have H1 := hide hH1; have BM := hide hb1; clear hH1 hb1)
        | (go_at_call 84; refine (HCP.out _ (by first | exact BB1.out | exact (Below.refl _ _).drew)).mono ?_; rintro r w3 ⟨av, cv, rfl, ho1, hb1⟩; (first | (have BB2 := hide (below_next BB1.out hb1)) | (have BB1 := hide ((Below.refl W0.heap.size W0).drew.trans hb1))); have O1 := hide ho1; have BC := hide hb1; clear ho1 hb1)))
    go_wp2_with fail
    go_meet
    case rel =>
      have hz1 := BB1.out.size
      have hz2 := BM.out.size
      have hz3 : W0.drew.heap.size = W0.heap.size := rfl
      refine ⟨w2.heap.size, av, cv, bm, rfl, hide (Bx3.new w2 _ _ _ _), hide ⟨ownsRow_below (ownsRow_mono (ownsRow_below O1.out BM.out) (by omega)) (below_alloc _ _), fun b hb => by have := (O1.out.lt b hb).2; omega⟩, hide (H1.out.below (below_alloc _ _)), ⟨by omega, H1.out.lt, ?_, by simp⟩, hide (below_next BB2.out (below_alloc _ _))⟩
      have := X0.out.lt
      omega
  case rest =>
    obtain ⟨fb, av, cv, bm, rfl, XF, OFl, HH, ⟨hbm1, hbm2, hfb, hsz⟩, BW0⟩ := hcut
    obtain ⟨WF, hWF⟩ : ∃ x, x = wc := ⟨_, rfl⟩
    subst hWF
    have BF := hide (below_next B0.out BW0.out)
    obtain ⟨⟨t0, t1, t2⟩, -, -, -⟩ := X0.out.below BW0.out
    clear HMP HCP KB BW0 X0 B0 hsB
    go_wp2_with fail
    clear t0 t1 t2
    go_loopw [5, 17] (fun _ i wr => ∃ (k : Nat) (ps : List Nat) (a : Option Addr) (c : Nat), k ≤ W.length ∧ i = .int .i64 k ∧ Hid (Bx3 wr fb (.slice a k c) (.slice av F.length cv) (.map (some bm))) ∧ Hid (OwnP (fb + 1) wr (.slice a k c) ps (W.take k)) ∧ Hid (Kept (fun x => x = fb) WF wr)) (fun _ i _ => W.length - (intOf i).toNat)
    case atStart => exact ⟨0, [], none, 0, Nat.zero_le _, rfl, XF, hide (by simpa using OwnP.nil _ _), hide (Kept.refl _ _)⟩
    case round =>
      obtain ⟨k, ps, a, c, hk, rfl, X, OP, KP⟩ := hrel
      have BW := hide (BF.out.trans (KP.out.below (B := w.heap.size) BF.out.size (fun j hj e => by omega)))
      by_cases hlt : k < W.length
      · obtain ⟨b1, o1, rfl, hb1, hc1⟩ := HW.out (by intro e; simp [e] at hlt)
        obtain ⟨c1, c2⟩ := hc1 k hlt
        have c1 := (BW.out.cell (p := ⟨b1, o1 + k * 2, none⟩) hb1).trans c1
        have c2 := (BW.out.cell (p := ⟨b1, o1 + k * 2 + 1, none⟩) hb1).trans c2
        have HTS := hide (take_snoc hlt)
        generalize (W.getD k (0, 0)).1 = d at *
        generalize (W.getD k (0, 0)).2 = t at *
        have hlk : (W.take k).length = k := by simp; omega
        have A1 := hide (below_alloc wr (.cells #[.int .i64 d, .int .i64 t] 120))
        have P1 := hide (Two.new wr (.int .i64 d) (.int .i64 t) 120)
        have X1 := hide (X.out.below A1.out)
        have OP1 := hide (OP.out.below A1.out)
        have R1 : Hid ((wr.alloc (.cells #[.int .i64 d, .int .i64 t] 120)).ownsRow (fb + 1) 123 1 (.slice a k c) k (ps.map ptrV)) := hide (by have := OP1.out.row; rw [hlk] at this; exact this)
        have hsw : fb + 1 ≤ wr.heap.size := by have := KP.out.size; omega
        have hm1 : k + 1 ≤ maxLen := by unfold maxLen; omega
        have hm2 : (k + 1) * 8 ≤ 140737488355328 := by omega
        clear hc1
        go_upto_region 5 with fail
        clear c1 c2
        generalize hW1 : wr.alloc (.cells #[.int .i64 d, .int .i64 t] 120) = W1 at *
        have HSW : Hid (W1.heap.size = wr.heap.size + 1) := hide (by rw [← hW1]; simp)
        have hsW1 : fb + 1 ≤ W1.heap.size := by have := HSW.out; omega
        have K1 := hide (KP.out.trans (Kept.of_below A1.out))
        generalize wr.heap.size = q at *
        clear hW1
        obtain ⟨d0, d1⟩ := P1.out
        obtain ⟨⟨x0, x1, x2⟩, x3, x4, x5⟩ := X1.out
        have hfbl := X1.out.lt
        go_region_law
          ((refine step_append_own (by rfl) (.tmp 25) (.tmp 32) 95 (by rfl) (fb + 1) 123 i1 (.pointer none) 1 8 Tryz.underlying95 ki kz0 kz1 kz2 rfl (by decide) (.slice a k c) k (ps.map ptrV) (by rfl) ((R1.out.alloc _).alloc _) ⟨W1.heap.size + 1, 0, none⟩ 1 1 [ptrV W1.heap.size] (by rfl) (by rfl) (news1 (by simp)) (by intro u hu; simp at hu; subst hu; rfl) (k + 1) rfl hm1 hm2 (by simp; omega) ?_; intro a' c' w3 hrow3 hk3; have O3 := hide hrow3; have K3 := hide hk3; have X3 := hide ((((X1.out.below (Below.refl _ _).drew).below (below_alloc _ _)).below (below_alloc _ _)).kept hk3 (fun e => by have := (R1.out.lt _ e).1; omega)); clear hrow3 hk3; obtain ⟨⟨y0, y1, y2⟩, y3, y4, y5⟩ := X3.out))
        all_goals
          have BA := hide ((below_next (below_alloc W1 (.cells #[.int .i64 d, .int .i64 t] 120)) (below_alloc _ (.cells #[Value.pointer (some ⟨W1.heap.size, 0, none⟩)] 123))).drew)
          have PB := hide ((Box.new W1 (.int .i64 d) (.int .i64 t) 120).below ((below_alloc _ (.cells #[Value.pointer (some ⟨W1.heap.size, 0, none⟩)] 123)).drew))
          have OP3 := hide ((OP1.out.below BA.out).push (p := W1.heap.size) PB.out hsW1 (fun i hi e => by
            have h1 := (OP1.out.box i hi).2.1.lt
            rw [e] at h1
            exact absurd h1 (Nat.lt_irrefl _)) (by rw [hlk]; exact O3.out) K3.out (fun b hb e => by
            have h1 := (OP1.out.row.lt b hb).2
            rw [← e] at h1
            exact absurd h1 (Nat.lt_irrefl _)))
          rw [← HTS.out] at OP3
          have KK := hide (((K1.out.trans (Kept.of_below BA.out)).trans_own K3.out (fun b hb e => by have := (R1.out.lt b e).1; omega)).trans (Kept.one w3 fb 0 (.slice a' (k + 1) c')))
          clear x0 x1 x2 x3 x4 x5 y0 y1 y2 y3 y4 y5 d0 d1
          go_wp2_with fail
          go_roundw
          case rel => exact ⟨k + 1, ps ++ [W1.heap.size], a', c', by omega, by go_num, hide (X3.out.set0 _), hide (OP3.out.kept (Kept.one w3 fb 0 _) (fun b hb e => by omega)), KK⟩
          case measure => simp [intOf]; omega
      · have hkl : k = W.length := by omega
        subst hkl
        go_wp2_with fail
        go_ret
        refine ⟨fb, rfl, ⟨a, c, ps, av, cv, bm, n, X.out, ?_, ⟨ownsRow_kept OFl.out.1 KP.out (fun b hb e => by have := OFl.out.2 b hb; omega), OFl.out.2⟩, HH.out.kept KP.out (by omega) (fun x hx => by omega), hbm1, hbm2, hnm⟩, by omega, BW.out⟩
        have := OP.out
        rw [List.take_length] at this
        exact this
end Go.Proofs.YtfamiehfpmjljaaGreatDoor

namespace Go.Proofs.YtfamiehfpmjljaaGreatDoor
open Go.RowKit Go.Maps
set_option linter.unusedVariables false

def Bx4 (w : World) (b : Nat) (u0 u1 u2 u3 : Value) : Prop := (w.cell? ⟨b, 0, none⟩ = some u0 ∧ w.cell? ⟨b, 1, none⟩ = some u1 ∧ w.cell? ⟨b, 2, none⟩ = some u2 ∧ w.cell? ⟨b, 3, none⟩ = some u3) ∧ w.frozen? ⟨b, 0, none⟩ = false ∧ w.frozen? ⟨b, 1, none⟩ = false ∧ w.frozen? ⟨b, 2, none⟩ = false ∧ w.frozen? ⟨b, 3, none⟩ = false
theorem Bx4.new (w : World) (u0 u1 u2 u3 : Value) (t : TypeId) : Bx4 (w.alloc (.cells #[u0, u1, u2, u3] t)) w.heap.size u0 u1 u2 u3 := ⟨⟨by simp, by simp, by simp, by simp⟩, by simp, by simp, by simp, by simp⟩
theorem Bx4.lt {w : World} {b : Nat} {u0 u1 u2 u3 : Value} (h : Bx4 w b u0 u1 u2 u3) : b < w.heap.size := World.block_lt_of_cell? w ⟨b, 0, none⟩ h.1.1
theorem Bx4.kept {S : Nat → Prop} {w w' : World} {b : Nat} {u0 u1 u2 u3 : Value} (h : Bx4 w b u0 u1 u2 u3) (hk : Kept S w w') (hn : ¬ S b) : Bx4 w' b u0 u1 u2 u3 :=
  ⟨⟨(hk.cell (p := ⟨b, 0, none⟩) h.lt hn).trans h.1.1, (hk.cell (p := ⟨b, 1, none⟩) h.lt hn).trans h.1.2.1, (hk.cell (p := ⟨b, 2, none⟩) h.lt hn).trans h.1.2.2.1, (hk.cell (p := ⟨b, 3, none⟩) h.lt hn).trans h.1.2.2.2⟩, (hk.frozen (p := ⟨b, 0, none⟩) h.lt hn).trans h.2.1, (hk.frozen (p := ⟨b, 1, none⟩) h.lt hn).trans h.2.2.1, (hk.frozen (p := ⟨b, 2, none⟩) h.lt hn).trans h.2.2.2.1, (hk.frozen (p := ⟨b, 3, none⟩) h.lt hn).trans h.2.2.2.2⟩
theorem Bx4.below {w w' : World} {b : Nat} {u0 u1 u2 u3 : Value} (h : Bx4 w b u0 u1 u2 u3) (hk : Below w.heap.size w w') : Bx4 w' b u0 u1 u2 u3 := h.kept (S := fun _ => False) (Kept.of_below hk) id
theorem Kept.fourF (w : World) (b : Nat) (u0 u1 u2 u3 : Value) : Kept (fun x => x = b) w ((((w.setCell ⟨b, 0, none⟩ u0).setCell ⟨b, 1, none⟩ u1).setCell ⟨b, 2, none⟩ u2).setCell ⟨b, 3, none⟩ u3) :=
  (((Kept.one w b 0 u0).trans (Kept.one _ b 1 u1)).trans (Kept.one _ b 2 u2)).trans (Kept.one _ b 3 u3)
set_option maxRecDepth 100000 in
set_option maxHeartbeats 6400000 in
theorem answer_nil (fb : Nat) (wa : Option Addr) (wk : Nat) (ps : List Nat) (W : List Wn) (fa : Option Addr) (fc fn bm N T : Nat) (L : List Ch) (w : World) (hX : Bx3 w fb (.slice wa W.length wk) (.slice fa fn fc) (.map (some bm))) (hP : RdP w wa ps W) (hH : Holds w bm N L T) (hT : T ≤ w.heap.size) (hWl : W.length ≤ 1048576) (hL : L.length ≤ 1048576) (hlen : ∀ p ∈ L, 0 < p.2.length ∧ p.2.length ≤ 1048576) :
    Calls Tryz.prog 44 #[.pointer (some ⟨fb, 0, none⟩), .nilIface] w fun e w' => ∃ va vc ca cc, e = .returned (.agg #[.int .i64 0, .slice va W.length vc, .slice fa fn fc, .slice ca L.length cc]) ∧ OwnW w.heap.size w' (.slice va W.length vc) W ∧ GC w.heap.size w'.heap.size w' (.slice ca L.length cc) (dg (up L)) (bt (up L)) L.length ∧ Below w.heap.size w w' := by
  obtain ⟨i1, ki, kz0, kz1, kz2⟩ := info_parts Tryz.infoWn
  have HX := hide hX
  have HPt := hide hP
  have HH := hide hH
  have HLn := hide hlen
  clear hX hP hH hlen
  have B0 := hide (below_alloc w (.cells #[.int .i64 0, .slice none 0 0, .slice none 0 0, .slice none 0 0] 32))
  have R0 := hide (Bx4.new w (.int .i64 0) (.slice none 0 0) (.slice none 0 0) (.slice none 0 0) 32)
  go_enter Tryz.func44, Tryz.ntmps44
  obtain ⟨⟨t0, t1, t2⟩, -, -, -⟩ := HX.out.below B0.out
  go_wp2_with fail
  clear t0 t1 t2
  generalize hW0 : w.alloc (.cells #[.int .i64 0, .slice none 0 0, .slice none 0 0, .slice none 0 0] 32) = W0 at *
  have hs0 : w.heap.size < W0.heap.size := by have := R0.out.lt; exact this
  clear hW0
  go_loopw [5, 7, 18] (fun v _ i wr => ∃ (k : Nat) (a : Option Addr) (c : Nat), k ≤ W.length ∧ i = .int .i64 k ∧ v = .slice a k c ∧ Hid (OwnW W0.heap.size wr (.slice a k c) (W.take k)) ∧ Hid (Below W0.heap.size W0 wr)) (fun _ _ i _ => W.length - (intOf i).toNat)
  case atStart => exact ⟨0, none, 0, Nat.zero_le _, rfl, rfl, hide (by simpa using OwnW.nil _ _), hide (Below.refl _ _)⟩
  case round =>
    obtain ⟨k, a, c, hk, rfl, rfl, OW, BW⟩ := hrel
    have BWW := hide (below_next B0.out BW.out)
    have hlk : (W.take k).length = k := by simp; omega
    by_cases hlt : k < W.length
    · obtain ⟨hp1, hp2, hp3⟩ := HPt.out.below BWW.out
      obtain ⟨b1, o1, rfl, hb1, hc1⟩ := hp3 (by intro e; simp [e] at hlt)
      have c1 := hc1 k hlt
      obtain ⟨e1, e2⟩ := hp2 k hlt
      have HTS := hide (take_snoc hlt)
      clear hp1 hp2 hp3 hc1
      generalize (W.getD k (0, 0)).1 = d at *
      generalize (W.getD k (0, 0)).2 = t at *
      generalize ps.getD k 0 = p at *
      have R1 : Hid (wr.ownsRow W0.heap.size 120 2 (.slice a k c) k (flat k (laidW k (W.take k)))) := hide (by have := OW.out; unfold OwnW at this; rw [hlk] at this; exact this)
      have hm1 : k + 1 ≤ maxLen := by unfold maxLen; omega
      have hm2 : (k + 1) * 16 ≤ 140737488355328 := by omega
      have hsz : W0.heap.size ≤ wr.heap.size := BW.out.size
      unfold ptrV at c1
      go_wp2_with (at_builtin; refine wpList_append_one rfl (.tmp 22) (.tmp 26) 24 rfl W0.heap.size 120 i1 (.agg #[.int .i64 0, .int .i64 0]) 2 16 Tryz.underlying24 ki kz0 kz1 kz2 rfl (by decide) _ _ _ rfl R1.out rfl rfl (by intro u hu; simp at hu; rcases hu with rfl | rfl <;> rfl) hm1 hm2 hsz ?_; intro v' w3 hrow3 hk3; obtain ⟨a', c', rfl⟩ := ownsRow_shape hrow3; have O3 := hide hrow3; have K3 := hide hk3; clear hrow3 hk3)
      have OW3 := hide (OwnW.push (W := W.take k) (d := d) (t := t) (v := .slice a' (k + 1) c') (B := W0.heap.size) (w := w3) (by rw [hlk]; exact O3.out))
      rw [← HTS.out] at OW3
      go_roundw
      case rel => exact ⟨k + 1, a', c', by omega, by go_num, rfl, OW3, hide (BW.out.trans (K3.out.below hsz (fun j hj e => by have := (R1.out.lt j e).1; omega)))⟩
      case measure => simp [intOf]; omega
    · have hkl : k = W.length := by omega
      subst hkl
      have OWF : Hid (OwnW W0.heap.size wr (.slice a W.length c) W) := hide (by have := OW.out; rw [List.take_length] at this; exact this)
      clear OW hlk
      have KB : Hid (∀ u : World, Below wr.heap.size wr u → u.cell? ⟨fb, 1, none⟩ = some (.slice fa fn fc) ∧ u.cell? ⟨fb, 2, none⟩ = some (.map (some bm))) := hide (fun u hu => ⟨(HX.out.below (below_next BWW.out hu)).1.2.1, (HX.out.below (below_next BWW.out hu)).1.2.2⟩)
      have HRs := hide (fun (u : World) (hu : Below wr.heap.size wr u) => risingC_any bm N L T u (HH.out.below (below_next BWW.out hu)) hL HLn.out (Nat.le_trans hT (below_next BWW.out hu).size))
      obtain ⟨q1, q2⟩ := KB.out wr (Below.refl _ _)
      go_wp2_with fail
      obtain ⟨⟨r0, r1, r2, r3⟩, s0, s1, s2, s3⟩ := R0.out.below BW.out
      have hfbl := HX.out.lt
      have KS : Hid (∀ u : World, Below wr.heap.size wr u → ∀ x0 x1 x2 x3 : Value, ((((u.setCell ⟨w.heap.size, 0, none⟩ x0).setCell ⟨w.heap.size, 1, none⟩ x1).setCell ⟨w.heap.size, 2, none⟩ x2).setCell ⟨w.heap.size, 3, none⟩ x3).cell? ⟨fb, 1, none⟩ = some (.slice fa fn fc) ∧ ((((u.setCell ⟨w.heap.size, 0, none⟩ x0).setCell ⟨w.heap.size, 1, none⟩ x1).setCell ⟨w.heap.size, 2, none⟩ x2).setCell ⟨w.heap.size, 3, none⟩ x3).cell? ⟨fb, 2, none⟩ = some (.map (some bm))) := hide (fun u hu x0 x1 x2 x3 => by
        have hX2 := (HX.out.below (below_next BWW.out hu)).kept (Kept.fourF u w.heap.size x0 x1 x2 x3) (by omega)
        exact ⟨hX2.1.2.1, hX2.1.2.2⟩)
      go_region_held3 (fun u => u.cell? ⟨fb, 1, none⟩ = some (.slice fa fn fc) ∧ u.cell? ⟨fb, 2, none⟩ = some (.map (some bm))) (first | exact KB.out _ BB1.out | exact KS.out _ BB1.out _ _ _ _ | exact KB.out _ (Below.refl _ _).drew | go_keep)
        ((go_at_call 86; refine (HRs.out _ (Below.refl _ _).drew).mono ?_; rintro r w4 ⟨ca, cc, rfl, hG4, hb4⟩; have BB1 := hide ((Below.refl wr.heap.size wr).drew.trans hb4); have G4 := hide hG4; have R4 := R0.out.below (below_next BW.out BB1.out); have R4H := hide R4; obtain ⟨⟨m0, m1, m2, m3⟩, k0, k1, k2, k3⟩ := R4; clear hG4 hb4))
      go_wp2_with fail
      have hz : ((((w4.setCell ⟨w.heap.size, 0, none⟩ (.int .i64 0)).setCell ⟨w.heap.size, 1, none⟩ (.slice a W.length c)).setCell ⟨w.heap.size, 2, none⟩ (.slice fa fn fc)).setCell ⟨w.heap.size, 3, none⟩ (.slice ca L.length cc)).heap.size = w4.heap.size := by simp [World.setCell]
      have hz1 : W0.heap.size ≤ wr.heap.size := BW.out.size
      have hz2 : wr.drew.heap.size = wr.heap.size := rfl
      have hk4 := Kept.fourF w4 w.heap.size (.int .i64 0) (.slice a W.length c) (.slice fa fn fc) (.slice ca L.length cc)
      refine bodyPost_ret (v := .agg #[.int .i64 0, .slice a W.length c, .slice fa fn fc, .slice ca L.length cc]) (by simp [results, Tryz.results44, go_sem, m0, m1, m2, m3]) rfl ⟨a, c, ca, cc, rfl, ?_, ?_, ?_⟩
      · exact ((OWF.out.below BB1.out).kept hk4 (fun b hb e => by omega)).mono (by omega)
      · rw [hz]
        exact (G4.out.kept hk4 (fun b h1 h2 e => by omega)).mono (by omega)
      · exact (below_next BWW.out BB1.out).trans (hk4.below (B := w.heap.size) (below_next BWW.out BB1.out).size (fun k hk e => by omega))
end Go.Proofs.YtfamiehfpmjljaaGreatDoor

namespace Go.Proofs.YtfamiehfpmjljaaGreatDoor
open Go.RowKit Go.Maps
set_option linter.unusedVariables false

theorem pairwise_lst {D : Nat → Int} {P : Nat → List Int} {n : Nat} (h : ∀ i j, i < j → j < n → D i < D j) : (lst D P n).Pairwise (fun p q => p.1 < q.1) := by
  unfold lst
  refine List.pairwise_map.2 ((List.pairwise_lt_range (n := n)).imp_of_mem fun {i j} hi hj hij => h i j hij (List.mem_range.1 hj))
theorem dg_lst {D : Nat → Int} {P : Nat → List Int} {n i : Nat} (hi : i < n) : dg (lst D P n) i = D i := by simp [dg, lst, List.getD_eq_getElem?_getD, hi]
theorem bt_lst {D : Nat → Int} {P : Nat → List Int} {n i : Nat} (hi : i < n) : bt (lst D P n) i = P i := by simp [bt, lst, List.getD_eq_getElem?_getD, hi]
theorem place {D : Nat → Int} (d : Int) : ∀ n : Nat, ∃ m, m ≤ n ∧ (∀ i, i < m → D i < d) ∧ (m < n → ¬ D m < d)
  | 0 => ⟨0, Nat.le_refl _, fun i hi => absurd hi (by omega), fun h => absurd h (by omega)⟩
  | n + 1 => by
    obtain ⟨m, h1, h2, h3⟩ := place (D := D) d n
    by_cases e : m < n
    · exact ⟨m, by omega, h2, fun _ => h3 e⟩
    · have hmn : m = n := by omega
      subst hmn
      by_cases hp : D m < d
      · exact ⟨m + 1, Nat.le_refl _, fun j hj => by
          by_cases ej : j = m
          · subst ej; exact hp
          · exact h2 j (by omega), fun h => absurd h (by omega)⟩
      · exact ⟨m, by omega, h2, fun _ => hp⟩




end Go.Proofs.YtfamiehfpmjljaaGreatDoor

namespace Go.Proofs.YtfamiehfpmjljaaGreatDoor
open Go.RowKit Go.Maps
set_option linter.unusedVariables false

def ResF (q : Int) (W : List Wn) (F : List Int) (D : Nat → Int) (P : Nat → List Int) (n : Nat) (w : World) (r : Ending) (w' : World) : Prop :=
  ∃ wa wc fa fc ca cc, r = .returned (.agg #[.int .i64 q, .slice wa W.length wc, .slice fa F.length fc, .slice ca n cc]) ∧ OwnW w.heap.size w' (.slice wa W.length wc) W ∧ w'.ownsRow w.heap.size 2 1 (.slice fa F.length fc) F.length (F.map (Value.int .i64)) ∧ GC w.heap.size w'.heap.size w' (.slice ca n cc) D P n ∧ Below w.heap.size w w'
theorem ResF.bad {q : Int} {D : Nat → Int} {P : Nat → List Int} {w w' : World} (h : Below w.heap.size w w') : ResF q [] [] D P 0 w (.returned (.agg #[.int .i64 q, .slice none 0 0, .slice none 0 0, .slice none 0 0])) w' := ⟨none, 0, none, 0, none, 0, rfl, OwnW.nil _ _, World.ownsRow_nil _ _ _ _, GC.nil _ _ _ _ _, h⟩
theorem ResF.box {q : Int} {W : List Wn} {F : List Int} {D : Nat → Int} {P : Nat → List Int} {n : Nat} {w w2 : World} {B b : Nat} {wa fa ca : Option Addr} {wc fc cc : Nat} {u0 u1 u2 u3 : Value} (hW : OwnW B w2 (.slice wa W.length wc) W) (hF : w2.ownsRow B 2 1 (.slice fa F.length fc) F.length (F.map (Value.int .i64))) (hG : GC B w2.heap.size w2 (.slice ca n cc) D P n) (hb : Below w.heap.size w w2) (hw : w.heap.size ≤ b) (hB : b < B) :
    ResF q W F D P n w (.returned (.agg #[.int .i64 q, .slice wa W.length wc, .slice fa F.length fc, .slice ca n cc])) ((((w2.setCell ⟨b, 0, none⟩ u0).setCell ⟨b, 1, none⟩ u1).setCell ⟨b, 2, none⟩ u2).setCell ⟨b, 3, none⟩ u3) := by
  have hk := Kept.fourF w2 b u0 u1 u2 u3
  have hz : ((((w2.setCell ⟨b, 0, none⟩ u0).setCell ⟨b, 1, none⟩ u1).setCell ⟨b, 2, none⟩ u2).setCell ⟨b, 3, none⟩ u3).heap.size = w2.heap.size := by simp [World.setCell]
  refine ⟨wa, wc, fa, fc, ca, cc, rfl, (hW.kept hk (fun x hx e => by omega)).mono (by omega), ownsRow_mono (ownsRow_kept hF hk (fun x hx e => by have := (hF.lt x hx).1; omega)) (by omega), ?_, hb.trans (hk.below (B := w.heap.size) hb.size (fun k hk e => by omega))⟩
  rw [hz]
  exact (hG.kept hk (fun x h1 h2 e => by omega)).mono (by omega)
theorem up_right {D : Nat → Int} {P : Nat → List Int} {n : Nat} (h : RightC D P n) : up (lst D P n) = lst D P n := by
  have hp := pairwise_lst (P := P) h.inj
  have hnd : ((lst D P n).map Prod.fst).Nodup := by
    rw [List.nodup_iff_pairwise_ne, List.pairwise_map]
    exact hp.imp (fun h e => by omega)
  exact up_unique (up_perm hnd) (up_up hnd) hp
theorem gc_right {D : Nat → Int} {P : Nat → List Int} {n B T : Nat} {w : World} {v : Value} (h : RightC D P n) (hG : GC B T w v (dg (up (lst D P n))) (bt (up (lst D P n))) n) : GC B T w v D P n := by
  rw [up_right h] at hG
  exact hG.congr (fun i hi => (dg_lst hi).symm) (fun i hi => (bt_lst hi).symm)
theorem lst_small {D : Nat → Int} {P : Nat → List Int} {n : Nat} (h : RightC D P n) : ∀ p ∈ lst D P n, 0 < p.2.length ∧ p.2.length ≤ 1048576 := by
  intro p hp
  obtain ⟨i, hi, rfl⟩ := lst_mem.1 hp
  exact h.u8len hi
set_option maxRecDepth 100000 in
set_option maxHeartbeats 3200000 in
theorem implForgetFailed_bad (wa : Option Addr) (wk : Nat) (W : List Wn) (fa : Option Addr) (fc : Nat) (F : List Int) (ca : Option Addr) (cc n : Nat) (D : Nat → Int) (P : Nat → List Int) (w : World) (h : RdF w wa W fa F ca D P n) (hn : n ≤ 1048576) (hP : SmallP P n) (hWl : W.length ≤ 1048576) (hFl : F.length ≤ 1048576) (hz : fetFault W F D P n ≠ 0) :
    Calls Tryz.prog 17 #[fetV wa W.length wk fa F.length fc ca n cc] w (ResF (fetFault W F D P n) [] [] D P 0 w) := by
  have B0 := hide (below_next (below_alloc w (.cells #[.slice wa W.length wk, .slice fa F.length fc, .slice ca n cc] 28)) (below_alloc _ (.cells #[.int .i64 0, .slice none 0 0, .slice none 0 0, .slice none 0 0] 32)))
  have X0 := hide ((Bx3.new w (.slice wa W.length wk) (.slice fa F.length fc) (.slice ca n cc) 28).below (below_alloc _ (.cells #[.int .i64 0, .slice none 0 0, .slice none 0 0, .slice none 0 0] 32)))
  have R0 := hide (Bx4.new (w.alloc (.cells #[.slice wa W.length wk, .slice fa F.length fc, .slice ca n cc] 28)) (.int .i64 0) (.slice none 0 0) (.slice none 0 0) (.slice none 0 0) 32)
  have hs : (w.alloc (.cells #[.slice wa W.length wk, .slice fa F.length fc, .slice ca n cc] 28)).heap.size = w.heap.size + 1 := by simp
  rw [hs] at R0
  clear hs
  have HFF := hide (implFetchFault_any wa wk W fa fc F ca cc n D P _ (h.below B0.out) hn hP hWl hFl)
  clear h hP
  unfold fetV at HFF ⊢
  have hz1 : (fetFault W F D P n != 0) = true := by simpa using hz
  generalize fetFault W F D P n = A at *
  clear hz
  go_enter Tryz.func17, Tryz.ntmps17
  obtain ⟨⟨t0, t1, t2⟩, -, -, -⟩ := X0.out
  go_wp2_with fail
  clear t0 t1 t2
  generalize (w.alloc (.cells #[.slice wa W.length wk, .slice fa F.length fc, .slice ca n cc] 28)).alloc (.cells #[.int .i64 0, .slice none 0 0, .slice none 0 0, .slice none 0 0] 32) = W0 at *
  refine HFF.out.mono ?_
  rintro e w1 ⟨rfl, hb1⟩
  have B1 := hide (below_next B0.out hb1)
  obtain ⟨⟨m0, m1, m2, m3⟩, k0, k1, k2, k3⟩ := R0.out.below hb1
  clear hb1
  go_wp2_with fail
  have hk := Kept.fourF w1 (w.heap.size + 1) (.int .i64 A) (.slice none 0 0) (.slice none 0 0) (.slice none 0 0)
  exact bodyPost_ret (v := .agg #[.int .i64 A, .slice none 0 0, .slice none 0 0, .slice none 0 0]) (by simp [results, Tryz.results17, go_sem, m0, m1, m2, m3]) rfl (ResF.bad (B1.out.trans (hk.below (B := w.heap.size) B1.out.size (fun k hk e => by omega))))
set_option maxRecDepth 100000 in
set_option maxHeartbeats 6400000 in
theorem implForgetFailed_ok (wa : Option Addr) (wk : Nat) (W : List Wn) (fa : Option Addr) (fc : Nat) (F : List Int) (ca : Option Addr) (cc n : Nat) (D : Nat → Int) (P : Nat → List Int) (w : World) (h : RdF w wa W fa F ca D P n) (hn : n ≤ 1048576) (hP : SmallP P n) (hWl : W.length ≤ 1048576) (hFl : F.length ≤ 1048576) (hz : fetFault W F D P n = 0) (hR : RightC D P n) :
    Calls Tryz.prog 17 #[fetV wa W.length wk fa F.length fc ca n cc] w (ResF 0 W [] D P n w) := by
  have B0 := hide (below_next (below_alloc w (.cells #[.slice wa W.length wk, .slice fa F.length fc, .slice ca n cc] 28)) (below_alloc _ (.cells #[.int .i64 0, .slice none 0 0, .slice none 0 0, .slice none 0 0] 32)))
  have X0 := hide ((Bx3.new w (.slice wa W.length wk) (.slice fa F.length fc) (.slice ca n cc) 28).below (below_alloc _ (.cells #[.int .i64 0, .slice none 0 0, .slice none 0 0, .slice none 0 0] 32)))
  have R0 := hide (Bx4.new (w.alloc (.cells #[.slice wa W.length wk, .slice fa F.length fc, .slice ca n cc] 28)) (.int .i64 0) (.slice none 0 0) (.slice none 0 0) (.slice none 0 0) 32)
  have hs : (w.alloc (.cells #[.slice wa W.length wk, .slice fa F.length fc, .slice ca n cc] 28)).heap.size = w.heap.size + 1 := by simp
  rw [hs] at R0
  clear hs
  have HFF := hide (implFetchFault_any wa wk W fa fc F ca cc n D P _ (h.below B0.out) hn hP hWl hFl)
  have HFO := hide (fun (u : World) (hu : Below w.heap.size w u) => fetchingOf_any wa wk W fa fc F ca cc n D P u (h.below hu) hR hWl hFl)
  have HRt := hide hR
  rw [hz] at HFF
  clear h hP hz hR
  unfold fetV at HFF HFO ⊢
  go_enter Tryz.func17, Tryz.ntmps17
  obtain ⟨⟨t0, t1, t2⟩, -, -, -⟩ := X0.out
  go_wp2_with fail
  clear t0 t1 t2
  generalize (w.alloc (.cells #[.slice wa W.length wk, .slice fa F.length fc, .slice ca n cc] 28)).alloc (.cells #[.int .i64 0, .slice none 0 0, .slice none 0 0, .slice none 0 0] 32) = W0 at *
  refine HFF.out.mono ?_
  rintro e w1 ⟨rfl, hb1⟩
  have B1 := hide (below_next B0.out hb1)
  have X1 := hide (X0.out.below hb1)
  have R1 := hide (R0.out.below hb1)
  clear hb1 X0 R0 B0 HFF
  obtain ⟨⟨t0, t1, t2⟩, -, -, -⟩ := X1.out
  go_wp2_with fail
  clear t0 t1 t2
  refine (HFO.out w1 B1.out).mono ?_
  rintro e w2 ⟨fb, rfl, ⟨va, vc, ps, ga, gc, bm, N, hX2, hO2, ⟨hF2, hF3⟩, hH2, hm1, hm2, -⟩, hfb, hb2⟩
  have B2 := hide (below_next B1.out hb2)
  have R2 := hide (R1.out.below hb2)
  have X2 := hide hX2
  have O2 := hide hO2
  have H2 := hide hH2
  have hz2 := hb2.size
  have hr1 := R1.out.lt
  clear hb2 hX2 hO2 hF2 hF3 hH2 R1 B1
  obtain ⟨⟨y0, y1, y2⟩, y3, y4, y5⟩ := X2.out
  have X3 := hide (X2.out.set1 (.slice none 0 0))
  have K3 := hide (Kept.one w2 fb 1 (.slice none 0 0))
  have hl2 : (lst D P n).length = n := lst_length D P n
  have HAN := hide (answer_nil fb va vc ps W none 0 0 bm N w1.heap.size (lst D P n) _ X3.out (O2.out.kept K3.out (fun b hb e => by omega)).rd (H2.out.kept K3.out (by omega) (fun x hx => by omega)) (by simp [World.setCell]; omega) hWl (by rw [hl2]; exact hn) (lst_small HRt.out))
  have B3 : Hid (Below w.heap.size w (w2.setCell ⟨fb, 1, none⟩ (.slice none 0 0))) := hide (B2.out.setCell (by show w.heap.size ≤ fb; have := B2.out.size; omega) _)
  have R3 : Hid (Bx4 (w2.setCell ⟨fb, 1, none⟩ (.slice none 0 0)) (w.heap.size + 1) (.int .i64 0) (.slice none 0 0) (.slice none 0 0) (.slice none 0 0)) := hide (R2.out.kept K3.out (by omega))
  go_wp2_with fail
  clear y0 y1 y2 y3 y4 y5
  generalize w2.setCell ⟨fb, 1, none⟩ (.slice none 0 0) = W3 at *
  refine HAN.out.mono ?_
  rintro e w4 ⟨xa, xc, ya, yc, rfl, hOW, hGC, hb4⟩
  rw [hl2] at hGC ⊢
  have OW4 := hide hOW
  have GC4 := hide (gc_right HRt.out hGC)
  have B4 := hide (below_next B3.out hb4)
  obtain ⟨⟨m0, m1, m2, m3⟩, k0, k1, k2, k3⟩ := R3.out.below hb4
  have hr3 := R3.out.lt
  clear hOW hGC hb4
  go_wp2_with fail
  exact bodyPost_ret (v := .agg #[.int .i64 0, .slice xa W.length xc, .slice none 0 0, .slice ya n yc]) (by simp [results, Tryz.results17, go_sem, m0, m1, m2, m3]) rfl (ResF.box (F := []) (B := W3.heap.size) OW4.out (World.ownsRow_nil _ _ _ _) GC4.out B4.out (by omega) (by omega))
end Go.Proofs.YtfamiehfpmjljaaGreatDoor

namespace Go.Proofs.YtfamiehfpmjljaaGreatDoor
open Go.RowKit Go.Maps
set_option linter.unusedVariables false
attribute [local go_sem ↓] Go.wp_at_zero Go.wp_at_succ

theorem step_append_any {P : Program} {w : World} {ops : Array Oper} {o : Oper} {a : Act} {K : Act → World → Prop} {Q : Exit → Act → World → Prop} {E : Prop} (hgd : o.guard = none) (s x : Operand) (t : TypeId)
    (ho : o.op = .call { callee := .builtin .append, args := #[s, x], argTypes := #[t, t] })
    (base : Nat) (e : TypeId) (i : TypeInfo) (z : Value) (size bytes : Nat) (ht : P.underlying t = some (.slice e)) (hi : P.info? e = some i) (hz : i.zero = some z)
    (hsize : i.size = size) (hby : i.bytes = bytes) (hzs : z.cells.size = size) (hsz : 0 < size)
    (g : Nat) (hs : a.eval s = .slice (some ⟨g, 0, none⟩) 0 0) (hown : w.ownsRow base e size (.slice (some ⟨g, 0, none⟩) 0 0) 0 [])
    (xa : Option Addr) (m c : Nat) (news : List Value) (hx : a.eval x = .slice xa m c) (hl : news.length = m * size) (hr : news ≠ [] → ∃ ad, xa = some ad ∧ ∀ j u, news[j]? = some u → w.cell? (ad.add j) = some u) (h1 : ∀ u ∈ news, u.oneCell' = true)
    (h63 : 0 + m ≤ maxLen) (hbytes : (0 + m) * bytes ≤ 140737488355328) (hbase : base ≤ w.heap.size)
    (h : ∀ av cv w', w'.ownsRow base e size (.slice av m cv) m news → Kept (fun b => b = g) w w' → K (a.put o.dst (.slice av m cv)) w') :
    if Region.wanted o (yielded ops a.tmps) = true then Oper.wp P o a w K Q else E := by
  have hw : Region.wanted o (yielded ops a.tmps) = true := by simp [Region.wanted, hgd]
  rw [if_pos hw]
  cases xa with
  | some ad =>
    refine wp_append_own w s x t ho base e i z size bytes ht hi hz hsize hby hzs hsz _ 0 [] hs hown ad m c news hx hl (fun j u hj => ?_) h1 h63 hbytes hbase fun v' w' h2 h3 _ => ?_
    · have h0 : news ≠ [] := fun e => by subst e; simp at hj
      obtain ⟨ad', e1, hc⟩ := hr h0
      simp only [Option.some.injEq] at e1
      subst e1
      exact hc j u hj
    · rw [List.nil_append, Nat.zero_add] at h2
      obtain ⟨av, cv, rfl⟩ := ownsRow_shape h2
      exact h av cv w' h2 ⟨h3.os, h3.tape, h3.output, h3.size, fun q hq hn => h3.block q hq (fun e => hn (by simp [Value.ownBlock] at e; omega))⟩
  | none =>
    have h0 : news = [] := by
      by_cases h0 : news = []
      · exact h0
      · obtain ⟨ad, e1, _⟩ := hr h0; cases e1
    subst h0
    have hm : m = 0 := by
      simp only [List.length_nil] at hl
      rcases Nat.mul_eq_zero.1 hl.symm with h2 | h2 <;> omega
    subst hm
    have hrun : (Builtin.append_ #[t, t] o.type #[.slice (some ⟨g, 0, none⟩) 0 0, .slice none 0 c]).run P w = .ok (.slice (some ⟨g, 0, none⟩) 0 0) w := by
      simp [Builtin.append_, run_underlying ht, sizeOf, typeInfo, hi, Builtin.lenOf, Builtin.firstCells, storeCells]
    unfold Oper.wp execOp
    simp only [ho, resolve, invoke, builtin, Sem.run_bind, Sem.run_pure, Result.andThen_ok, List.map_toArray, List.map_cons, List.map_nil, hs, hx, hrun]
    exact h _ _ w hown (Kept.refl _ _)
theorem rdW_news {w : World} {a : Option Addr} {W : List Wn} (h : RdW w a W) : flat W.length (laidW W.length W) ≠ [] → ∃ ad, a = some ad ∧ ∀ j u, (flat W.length (laidW W.length W))[j]? = some u → w.cell? (ad.add j) = some u := by
  intro hz
  have h0 : W ≠ [] := fun e => by subst e; exact hz rfl
  obtain ⟨b, off, rfl, hb, hc⟩ := h h0
  have hl := flat_length (n := W.length) (k := 2) (F := laidW W.length W) (fun i _ => laidW_length _ _ _)
  refine ⟨_, rfl, fun j u hj => ?_⟩
  have hjl : j < W.length * 2 := by
    by_cases hx : j < W.length * 2
    · exact hx
    · rw [List.getElem?_eq_none (by omega)] at hj; cases hj
  have hadd : (⟨b, off, none⟩ : Addr).add j = ⟨b, off + j, none⟩ := by unfold Addr.add; split <;> simp_all
  have e : j = j / 2 * 2 + j % 2 := by omega
  have h1 : j / 2 < W.length := by omega
  have h2 : j % 2 < 2 := by omega
  rw [e, flat_get (fun i _ => laidW_length _ _ _) _ _ h1 h2] at hj
  obtain ⟨c1, c2⟩ := hc (j / 2) h1
  rw [hadd]
  have hm : j % 2 = 0 ∨ j % 2 = 1 := by omega
  rcases hm with hm | hm
  · rw [hm] at hj
    have e2 : off + j = off + j / 2 * 2 := by omega
    rw [e2, c1]
    simpa [laidW, h1] using hj
  · rw [hm] at hj
    have e2 : off + j = off + j / 2 * 2 + 1 := by omega
    rw [e2, c2]
    simpa [laidW, h1] using hj
theorem flatW_one (W : List Wn) : ∀ u ∈ flat W.length (laidW W.length W), u.oneCell' = true := by
  intro u hu
  unfold flat at hu
  obtain ⟨i, hi, hu⟩ := List.mem_flatMap.1 hu
  unfold laidW at hu
  split at hu <;> simp at hu <;> rcases hu with rfl | rfl <;> rfl
theorem rdF_news {w : World} {a : Option Addr} {F : List Int} (h : Reads .i64 w a F) : F.map (Value.int .i64) ≠ [] → ∃ ad, a = some ad ∧ ∀ j u, (F.map (Value.int .i64))[j]? = some u → w.cell? (ad.add j) = some u := by
  intro hz
  obtain ⟨b, off, rfl, hb, hc⟩ := h (by intro e; subst e; simp at hz)
  exact ⟨_, rfl, reads_news hc⟩
theorem rows_apart {w : World} {B B' : Nat} {e e' : TypeId} {s s' : Nat} {v v' : Value} {n n' : Nat} {xs xs' : List Value} (h : w.ownsRow B e s v n xs) (h' : w.ownsRow B' e' s' v' n' xs') (he : e ≠ e') {b : Nat} (hb : v.ownBlock = some b) : v'.ownBlock ≠ some b := by
  intro hb'
  rcases h.2 with ⟨rfl, _⟩ | ⟨g, cap, cur, rfl, _, hh, _⟩
  · simp [Value.ownBlock] at hb
  · rcases h'.2 with ⟨rfl, _⟩ | ⟨g', cap', cur', rfl, _, hh', _⟩
    · simp [Value.ownBlock] at hb'
    · simp only [Value.ownBlock, Option.some.injEq] at hb hb'
      subst hb hb'
      rw [hh] at hh'
      simp only [Option.some.injEq, Obj.cells.injEq] at hh'
      exact he hh'.2.1
theorem made_at {w : World} {g base : Nat} {e : TypeId} {size : Nat} (hg : w.heap.size = g) (hb : base ≤ g) : (w.alloc (.cells #[] e)).ownsRow base e size (.slice (some ⟨g, 0, none⟩) 0 0) 0 [] := by
  subst hg
  exact World.ownsRow_made w #[] 0 hb (Nat.zero_le _) (by simp)
theorem Kept.threeF (w : World) (b : Nat) (u0 u1 u2 : Value) : Kept (fun x => x = b) w (((w.setCell ⟨b, 0, none⟩ u0).setCell ⟨b, 1, none⟩ u1).setCell ⟨b, 2, none⟩ u2) :=
  ((Kept.one w b 0 u0).trans (Kept.one _ b 1 u1)).trans (Kept.one _ b 2 u2)
set_option maxRecDepth 100000 in
set_option maxHeartbeats 12800000 in
theorem l10Copy_any (wa : Option Addr) (wk : Nat) (W : List Wn) (fa : Option Addr) (fc : Nat) (F : List Int) (ca : Option Addr) (cc n : Nat) (D : Nat → Int) (P : Nat → List Int) (w : World) (h : RdF w wa W fa F ca D P n) (hn : n ≤ 1048576) (hP : ∀ i, i < n → 0 < (P i).length ∧ (P i).length ≤ 1048576) (hWl : W.length ≤ 1048576) (hFl : F.length ≤ 1048576) :
    Calls Tryz.prog 49 #[fetV wa W.length wk fa F.length fc ca n cc] w fun e w' => ∃ xa xc ya yc za zc T, e = .returned (.agg #[.slice xa W.length xc, .slice ya F.length yc, .slice za n zc]) ∧ OwnW w.heap.size w' (.slice xa W.length xc) W ∧ w'.ownsRow w.heap.size 2 1 (.slice ya F.length yc) F.length (F.map (Value.int .i64)) ∧ GC T w'.heap.size w' (.slice za n zc) D P n ∧ w.heap.size ≤ T ∧ (∀ b, (Value.slice xa W.length xc).ownBlock = some b → b < T) ∧ (∀ b, (Value.slice ya F.length yc).ownBlock = some b → b < T) ∧ Below w.heap.size w w' := by
  obtain ⟨i1, ki, kz0, kz1, kz2⟩ := info_parts Tryz.infoWn
  obtain ⟨i0, hi0, hz0, hz1, hz2⟩ := info_parts Tryz.infoI64
  have X0 := hide ((Bx3.new w (.slice wa W.length wk) (.slice fa F.length fc) (.slice ca n cc) 28).below (below_alloc _ (.cells #[.slice none 0 0, .slice none 0 0, .slice none 0 0] 28)))
  have Y0 := hide (Bx3.new (w.alloc (.cells #[.slice wa W.length wk, .slice fa F.length fc, .slice ca n cc] 28)) (.slice none 0 0) (.slice none 0 0) (.slice none 0 0) 28)
  have hs : (w.alloc (.cells #[.slice wa W.length wk, .slice fa F.length fc, .slice ca n cc] 28)).heap.size = w.heap.size + 1 := by simp
  rw [hs] at Y0
  clear hs
  have B0 := hide (below_next (below_alloc w (.cells #[.slice wa W.length wk, .slice fa F.length fc, .slice ca n cc] 28)) (below_alloc _ (.cells #[.slice none 0 0, .slice none 0 0, .slice none 0 0] 28)))
  have hW0 : ((w.alloc (.cells #[.slice wa W.length wk, .slice fa F.length fc, .slice ca n cc] 28)).alloc (.cells #[.slice none 0 0, .slice none 0 0, .slice none 0 0] 28)).heap.size = w.heap.size + 2 := by simp
  have HW0 := hide hW0
  have H0 := hide (h.below B0.out)
  have HP := hide hP
  have HFW := hide (flat_length (n := W.length) (k := 2) (F := laidW W.length W) (fun i _ => laidW_length _ _ _))
  have HFF : Hid ((F.map (Value.int .i64)).length = F.length * 1) := hide (by simp)
  have hm0 : 0 + W.length ≤ maxLen := by unfold maxLen; omega
  have hm0' : (0 + W.length) * 16 ≤ 140737488355328 := by omega
  have hm1 : 0 + F.length ≤ maxLen := by unfold maxLen; omega
  have hm1' : (0 + F.length) * 8 ≤ 140737488355328 := by omega
  clear h hP hW0
  unfold fetV
  go_enter Tryz.func49, Tryz.ntmps49
  obtain ⟨⟨t0, t1, t2⟩, -, -, -⟩ := X0.out
  go_upto_region 1 with fail
  generalize (w.alloc (.cells #[.slice wa W.length wk, .slice fa F.length fc, .slice ca n cc] 28)).alloc (.cells #[.slice none 0 0, .slice none 0 0, .slice none 0 0] 28) = W0 at *
  have HC : Hid (∀ (u w2 : World) (S : Nat → Prop), (u.cell? ⟨w.heap.size, 0, none⟩ = some (.slice wa W.length wk) ∧ u.cell? ⟨w.heap.size, 1, none⟩ = some (.slice fa F.length fc) ∧ u.cell? ⟨w.heap.size, 2, none⟩ = some (.slice ca n cc)) → Kept S u w2 → ¬ S w.heap.size → (w2.cell? ⟨w.heap.size, 0, none⟩ = some (.slice wa W.length wk) ∧ w2.cell? ⟨w.heap.size, 1, none⟩ = some (.slice fa F.length fc) ∧ w2.cell? ⟨w.heap.size, 2, none⟩ = some (.slice ca n cc))) := by
    intro u w2 S ⟨h0, h1, h2⟩ hk hn
    have hlt := World.block_lt_of_cell? u ⟨w.heap.size, 0, none⟩ h0
    exact ⟨(hk.cell (p := ⟨w.heap.size, 0, none⟩) hlt hn).trans h0, (hk.cell (p := ⟨w.heap.size, 1, none⟩) hlt hn).trans h1, (hk.cell (p := ⟨w.heap.size, 2, none⟩) hlt hn).trans h2⟩
  go_region_held3 (fun u => u.cell? ⟨w.heap.size, 0, none⟩ = some (.slice wa W.length wk) ∧ u.cell? ⟨w.heap.size, 1, none⟩ = some (.slice fa F.length fc) ∧ u.cell? ⟨w.heap.size, 2, none⟩ = some (.slice ca n cc))
    (first
      | exact HC.out _ _ _ (by assumption) hk9 id
      | exact HC.out _ _ _ (by assumption) hk7 (fun (e : w.heap.size = _) => by have := HW0.out; have := B3.out.size; omega)
      | exact HC.out _ _ _ (by assumption) hk3 (fun (e : w.heap.size = _) => by have := HW0.out; omega)
      | go_keep)
    (first
      | (refine step_append_any (by rfl) (.tmp 3) (.tmp 5) 24 (by rfl) W0.heap.size 120 i1 (.agg #[.int .i64 0, .int .i64 0]) 2 16 Tryz.underlying24 ki kz0 kz1 kz2 rfl (by decide) W0.heap.size (by rfl) (made_at rfl (Nat.le_refl _)) wa W.length wk (flat W.length (laidW W.length W)) (by rfl) HFW.out (rdW_news (H0.out.wants.below (below_alloc W0 (.cells #[] 120)).drew)) (flatW_one W) hm0 hm0' (below_alloc W0 (.cells #[] 120)).size ?_; intro av cv w3 hown3 hk3; have O3 := hide hown3; have B3 := hide ((below_alloc W0 (.cells #[] 120)).drew.trans (hk3.below (below_alloc W0 (.cells #[] 120)).size (fun q hq hS => by omega))); clear hown3)
      | (refine step_append_any (by rfl) (.tmp 3) (.tmp 5) 24 (by rfl) W0.heap.size 120 i1 (.agg #[.int .i64 0, .int .i64 0]) 2 16 Tryz.underlying24 ki kz0 kz1 kz2 rfl (by decide) W0.heap.size (by rfl) ((made_at (w := W0) rfl (Nat.le_refl _)).alloc _) wa W.length wk (flat W.length (laidW W.length W)) (by rfl) HFW.out (rdW_news (H0.out.wants.below (below_next (below_alloc W0 (.cells #[] 120)) (below_alloc (W0.alloc (.cells #[] 120)) (.cells #[] 2))).drew)) (flatW_one W) hm0 hm0' (below_next (below_alloc W0 (.cells #[] 120)) (below_alloc (W0.alloc (.cells #[] 120)) (.cells #[] 2))).size ?_; intro av cv w3 hown3 hk3; have O3 := hide hown3; have B3 := hide ((below_next (below_alloc W0 (.cells #[] 120)) (below_alloc (W0.alloc (.cells #[] 120)) (.cells #[] 2))).drew.trans (hk3.below (below_next (below_alloc W0 (.cells #[] 120)) (below_alloc (W0.alloc (.cells #[] 120)) (.cells #[] 2))).size (fun q hq hS => by omega))); have E4 : Hid (w3.ownsRow W0.heap.size 2 1 (.slice (some ⟨W0.heap.size + 1, 0, none⟩) 0 0) 0 []) := hide (ownsRow_kept (show World.ownsRow ((W0.alloc (.cells #[] 120)).alloc (.cells #[] 2)).drew W0.heap.size 2 1 (.slice (some ⟨W0.heap.size + 1, 0, none⟩) 0 0) 0 [] from made_at (w := W0.alloc (.cells #[] 120)) (by simp) (by omega)) hk3 (fun b hb e => by simp [Value.ownBlock] at hb; omega)); clear hown3)
      | (refine step_append_any (by rfl) (.tmp 3) (.tmp 5) 24 (by rfl) W0.heap.size 120 i1 (.agg #[.int .i64 0, .int .i64 0]) 2 16 Tryz.underlying24 ki kz0 kz1 kz2 rfl (by decide) (W0.heap.size + 1) (by rfl) (made_at (w := W0.alloc (.cells #[] 2)) (by simp) (by omega)) wa W.length wk (flat W.length (laidW W.length W)) (by rfl) HFW.out (rdW_news (H0.out.wants.below (below_next (below_alloc W0 (.cells #[] 2)) (below_alloc (W0.alloc (.cells #[] 2)) (.cells #[] 120))).drew)) (flatW_one W) hm0 hm0' (below_next (below_alloc W0 (.cells #[] 2)) (below_alloc (W0.alloc (.cells #[] 2)) (.cells #[] 120))).size ?_; intro av cv w3 hown3 hk3; have O3 := hide hown3; have B3 := hide ((below_next (below_alloc W0 (.cells #[] 2)) (below_alloc (W0.alloc (.cells #[] 2)) (.cells #[] 120))).drew.trans (hk3.below (below_next (below_alloc W0 (.cells #[] 2)) (below_alloc (W0.alloc (.cells #[] 2)) (.cells #[] 120))).size (fun q hq hS => by omega))); have E4 : Hid (w3.ownsRow W0.heap.size 2 1 (.slice (some ⟨W0.heap.size, 0, none⟩) 0 0) 0 []) := hide (ownsRow_kept (show World.ownsRow ((W0.alloc (.cells #[] 2)).alloc (.cells #[] 120)).drew W0.heap.size 2 1 (.slice (some ⟨W0.heap.size, 0, none⟩) 0 0) 0 [] from (made_at (w := W0) rfl (Nat.le_refl _)).alloc _) hk3 (fun b hb e => by simp [Value.ownBlock] at hb; omega)); clear hown3)
      | (refine step_append_any (by rfl) (.tmp 7) (.tmp 9) 25 (by rfl) W0.heap.size 2 i0 (.int .i64 0) 1 8 Tryz.underlying25 hi0 hz0 hz1 hz2 rfl (by decide) w3.heap.size (by rfl) (made_at rfl B3.out.size) fa F.length fc (F.map (Value.int .i64)) (by rfl) HFF.out (rdF_news (H0.out.failed.below (below_next B3.out (below_alloc w3 (.cells #[] 2))))) (ints_one _ _) hm1 hm1' (below_next B3.out (below_alloc w3 (.cells #[] 2))).size ?_; intro ay cy w7 hown7 hk7; have O7 := hide hown7; have B7 := hide ((below_next B3.out (below_alloc w3 (.cells #[] 2))).trans (hk7.below (below_next B3.out (below_alloc w3 (.cells #[] 2))).size (fun q hq hS => by have := B3.out.size; omega))); have O6 := hide (ownsRow_kept (O3.out.alloc _) hk7 (fun b hb e => by have := (O3.out.lt b hb).2; omega)); clear hown7)
      | (refine step_append_any (by rfl) (.tmp 7) (.tmp 9) 25 (by rfl) W0.heap.size 2 i0 (.int .i64 0) 1 8 Tryz.underlying25 hi0 hz0 hz1 hz2 rfl (by decide) (W0.heap.size + 1) (by rfl) E4.out fa F.length fc (F.map (Value.int .i64)) (by rfl) HFF.out (rdF_news (H0.out.failed.below B3.out)) (ints_one _ _) hm1 hm1' B3.out.size ?_; intro ay cy w7 hown7 hk7; have O7 := hide hown7; have B7 := hide (B3.out.trans (hk7.below B3.out.size (fun q hq hS => by have := B3.out.size; omega))); have O6 := hide (ownsRow_kept O3.out hk7 (fun b hb e => rows_apart O3.out E4.out (by decide) hb (by subst e; rfl))); clear hown7)
      | (refine step_append_any (by rfl) (.tmp 7) (.tmp 9) 25 (by rfl) W0.heap.size 2 i0 (.int .i64 0) 1 8 Tryz.underlying25 hi0 hz0 hz1 hz2 rfl (by decide) W0.heap.size (by rfl) E4.out fa F.length fc (F.map (Value.int .i64)) (by rfl) HFF.out (rdF_news (H0.out.failed.below B3.out)) (ints_one _ _) hm1 hm1' B3.out.size ?_; intro ay cy w7 hown7 hk7; have O7 := hide hown7; have B7 := hide (B3.out.trans (hk7.below B3.out.size (fun q hq hS => by have := B3.out.size; omega))); have O6 := hide (ownsRow_kept O3.out hk7 (fun b hb e => rows_apart O3.out E4.out (by decide) hb (by subst e; rfl))); clear hown7)
      | (go_at_call 93; refine (l2Copy_any ca cc n D P w7 (H0.out.chunks.below B7.out) hn HP.out).mono ?_; rintro e w9 ⟨az, cz, rfl, hG, hb9⟩; have G9 := hide hG; have B9 := hide (below_next B7.out hb9); have O9 := hide (ownsRow_below O7.out hb9); have P9 := hide (ownsRow_below O6.out hb9); have hz9 := hb9.size; have hk9 : Kept (fun _ => False) w7 w9 := Kept.of_below hb9; obtain ⟨⟨m0, m1, m2⟩, k0, k1, k2⟩ := Y0.out.below B9.out; clear hG hb9))
  all_goals
    go_wp2_with fail
    have hk := Kept.threeF w9 (w.heap.size + 1) (.slice av W.length cv) (.slice ay F.length cy) (.slice az n cz)
    refine bodyPost_ret (v := .agg #[.slice av W.length cv, .slice ay F.length cy, .slice az n cz]) (by simp [results, Tryz.results49, go_sem, m0, m1, m2]) rfl ⟨av, cv, ay, cy, az, cz, w7.heap.size, rfl, ?_, ?_, ?_, ?_, ?_, ?_, ?_⟩
    · exact ownsRow_mono (ownsRow_kept P9.out hk (fun b hb e => by have := (P9.out.lt b hb).1; have := HW0.out; omega)) (by have := HW0.out; omega)
    · exact ownsRow_mono (ownsRow_kept O9.out hk (fun b hb e => by have := (O9.out.lt b hb).1; have := HW0.out; omega)) (by have := HW0.out; omega)
    · have hz : (((w9.setCell ⟨w.heap.size + 1, 0, none⟩ (.slice av W.length cv)).setCell ⟨w.heap.size + 1, 1, none⟩ (.slice ay F.length cy)).setCell ⟨w.heap.size + 1, 2, none⟩ (.slice az n cz)).heap.size = w9.heap.size := by simp [World.setCell]
      rw [hz]
      exact G9.out.kept hk (fun x h1 h2 e => by have := B7.out.size; have := HW0.out; omega)
    · have := B7.out.size; have := HW0.out; omega
    · exact fun b hb => (O6.out.lt b hb).2
    · exact fun b hb => (O7.out.lt b hb).2
    · have hb9 := below_next B0.out B9.out
      exact hb9.trans (hk.below (B := w.heap.size) hb9.size (fun k hk e => by omega))
end Go.Proofs.YtfamiehfpmjljaaGreatDoor

namespace Go.Proofs.YtfamiehfpmjljaaGreatDoor
open Go.RowKit Go.Maps
set_option linter.unusedVariables false
set_option maxRecDepth 100000 in
set_option maxHeartbeats 1600000 in
theorem l10Bad_any (q : Int) (w : World) : Calls Tryz.prog 47 #[.int .i64 q] w fun e w' => e = .returned (.agg #[.int .i64 q, .slice none 0 0, .slice none 0 0, .slice none 0 0]) ∧ Below w.heap.size w w' := by
  go_enter Tryz.func47, Tryz.ntmps47
  go_wp2_with fail
  exact bodyPost_ret (v := .agg #[.int .i64 q, .slice none 0 0, .slice none 0 0, .slice none 0 0]) (by simp [results, Tryz.results47, go_sem]) rfl ⟨rfl, below_alloc _ _⟩
end Go.Proofs.YtfamiehfpmjljaaGreatDoor

namespace Go.Proofs.YtfamiehfpmjljaaGreatDoor
open Go.RowKit Go.Maps
set_option linter.unusedVariables false

theorem below_drewN {B : Nat} {w w' : World} (h : Below B w w') : ∀ n, Below B w (w'.drewN n)
  | 0 => h
  | n + 1 => (below_drewN h n).drew
end Go.Proofs.YtfamiehfpmjljaaGreatDoor

