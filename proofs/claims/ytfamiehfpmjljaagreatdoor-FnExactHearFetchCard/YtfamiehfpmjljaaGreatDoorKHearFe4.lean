/-
  Texts put together: FetB FetS FetW.
-/
import Derived.Test.YtfamiehfpmjljaaGreatDoorKHearFe3
import Derived.Test.YtfamiehfpmjljaaGreatDoorKHearFe2
import Derived.Deep.RegionHeld3
import Derived.Deep.CutRange
import Derived.Test.YtfamiehfpmjljaaGreatDoorKHearFe1
namespace Go.Proofs.YtfamiehfpmjljaaGreatDoor
open Go.RowKit Go.Maps
set_option linter.unusedVariables false

def Bx3 (w : World) (b : Nat) (u0 u1 u2 : Value) : Prop := (w.cell? ⟨b, 0, none⟩ = some u0 ∧ w.cell? ⟨b, 1, none⟩ = some u1 ∧ w.cell? ⟨b, 2, none⟩ = some u2) ∧ w.frozen? ⟨b, 0, none⟩ = false ∧ w.frozen? ⟨b, 1, none⟩ = false ∧ w.frozen? ⟨b, 2, none⟩ = false
theorem Bx3.new (w : World) (u0 u1 u2 : Value) (t : TypeId) : Bx3 (w.alloc (.cells #[u0, u1, u2] t)) w.heap.size u0 u1 u2 := ⟨⟨by simp, by simp, by simp⟩, by simp, by simp, by simp⟩
theorem Bx3.lt {w : World} {b : Nat} {u0 u1 u2 : Value} (h : Bx3 w b u0 u1 u2) : b < w.heap.size := World.block_lt_of_cell? w ⟨b, 0, none⟩ h.1.1
theorem Bx3.kept {S : Nat → Prop} {w w' : World} {b : Nat} {u0 u1 u2 : Value} (h : Bx3 w b u0 u1 u2) (hk : Kept S w w') (hn : ¬ S b) : Bx3 w' b u0 u1 u2 :=
  ⟨⟨(hk.cell (p := ⟨b, 0, none⟩) h.lt hn).trans h.1.1, (hk.cell (p := ⟨b, 1, none⟩) h.lt hn).trans h.1.2.1, (hk.cell (p := ⟨b, 2, none⟩) h.lt hn).trans h.1.2.2⟩, (hk.frozen (p := ⟨b, 0, none⟩) h.lt hn).trans h.2.1, (hk.frozen (p := ⟨b, 1, none⟩) h.lt hn).trans h.2.2.1, (hk.frozen (p := ⟨b, 2, none⟩) h.lt hn).trans h.2.2.2⟩
theorem Bx3.below {w w' : World} {b : Nat} {u0 u1 u2 : Value} (h : Bx3 w b u0 u1 u2) (hk : Below w.heap.size w w') : Bx3 w' b u0 u1 u2 := h.kept (S := fun _ => False) (Kept.of_below hk) id
theorem Bx3.set0 {w : World} {b : Nat} {u0 u1 u2 : Value} (h : Bx3 w b u0 u1 u2) (u : Value) : Bx3 (w.setCell ⟨b, 0, none⟩ u) b u u1 u2 := by
  obtain ⟨⟨m0, m1, m2⟩, f0, f1, f2⟩ := h
  refine ⟨⟨cell_set_same m0, ?_, ?_⟩, ?_, ?_, ?_⟩
  · rw [cell_set_other (by simp)]; exact m1
  · rw [cell_set_other (by simp)]; exact m2
  · rw [World.frozen?_setCell]; exact f0
  · rw [World.frozen?_setCell]; exact f1
  · rw [World.frozen?_setCell]; exact f2
theorem Bx3.set1 {w : World} {b : Nat} {u0 u1 u2 : Value} (h : Bx3 w b u0 u1 u2) (u : Value) : Bx3 (w.setCell ⟨b, 1, none⟩ u) b u0 u u2 := by
  obtain ⟨⟨m0, m1, m2⟩, f0, f1, f2⟩ := h
  refine ⟨⟨?_, cell_set_same m1, ?_⟩, ?_, ?_, ?_⟩
  · rw [cell_set_other (by simp)]; exact m0
  · rw [cell_set_other (by simp)]; exact m2
  · rw [World.frozen?_setCell]; exact f0
  · rw [World.frozen?_setCell]; exact f1
  · rw [World.frozen?_setCell]; exact f2
theorem Kept.one (w : World) (b i : Nat) (u : Value) : Kept (fun x => x = b) w (w.setCell ⟨b, i, none⟩ u) := Kept.setCell (S := fun x => x = b) (p := ⟨b, i, none⟩) (Kept.refl _ w) (fun _ => rfl) u
theorem keys_lst (D : Nat → Int) (P : Nat → List Int) (n : Nat) : (lst D P n).map Prod.fst = keysC D n := by simp [lst, keysC]
def fetV (wa : Option Addr) (wn wc : Nat) (fa : Option Addr) (fn fc : Nat) (ca : Option Addr) (cn cc : Nat) : Value := .agg #[.slice wa wn wc, .slice fa fn fc, .slice ca cn cc]
structure RdF (w : World) (wa : Option Addr) (W : List Wn) (fa : Option Addr) (F : List Int) (ca : Option Addr) (D : Nat → Int) (P : Nat → List Int) (n : Nat) : Prop where
  wants : RdW w wa W
  failed : Reads .i64 w fa F
  chunks : RdC w ca D P n
theorem RdF.below {w w' : World} {wa : Option Addr} {W : List Wn} {fa : Option Addr} {F : List Int} {ca : Option Addr} {D : Nat → Int} {P : Nat → List Int} {n : Nat} (h : RdF w wa W fa F ca D P n) (hb : Below w.heap.size w w') : RdF w' wa W fa F ca D P n := ⟨h.wants.below hb, h.failed.below hb, h.chunks.below hb⟩
theorem Tryz.infoPW : (Tryz.prog.info? 123).map (fun i => (i.zero, i.size, i.bytes)) = some (some (.pointer none), 1, 8) := by kernel_rfl
theorem take_snoc {W : List Wn} {k : Nat} (h : k < W.length) : W.take (k + 1) = W.take k ++ [((W.getD k (0, 0)).1, (W.getD k (0, 0)).2)] := by
  have e : W.getD k (0, 0) = W[k] := by simp [List.getD_eq_getElem?_getD, h]
  rw [e, List.take_add_one, List.getElem?_eq_getElem h]
  rfl
theorem wFault_range {W : List Wn} {F C : List Int} {k : Nat} {d t : Int} (hd : (W.getD k (0, 0)).1 = d) (ht : (W.getD k (0, 0)).2 = t) (h : ¬ (okD d ∧ 0 ≤ t ∧ t < 3)) : wFault W F C k = some 3 := by
  unfold wFault; rw [hd, ht, if_neg h]
theorem wFault_taken {W : List Wn} {F C : List Int} {k : Nat} {d t : Int} (hd : (W.getD k (0, 0)).1 = d) (ht : (W.getD k (0, 0)).2 = t) (h : okD d ∧ 0 ≤ t ∧ t < 3) (hk : d ∈ C ∨ d ∈ F ∨ d ∈ (W.take k).map Prod.fst) : wFault W F C k = some 7 := by
  unfold wFault; rw [hd, ht, if_pos h, if_pos hk]
theorem wFault_none {W : List Wn} {F C : List Int} {k : Nat} {d t : Int} (hd : (W.getD k (0, 0)).1 = d) (ht : (W.getD k (0, 0)).2 = t) (h : okD d ∧ 0 ≤ t ∧ t < 3) (hk : ¬ (d ∈ C ∨ d ∈ F ∨ d ∈ (W.take k).map Prod.fst)) : wFault W F C k = none := by
  unfold wFault; rw [hd, ht, if_pos h, if_neg hk]
theorem okD_wf {d : Int} (h : okD d) : (Lit.int .i64 d).wf = true := i64_wf h.1 h.2
set_option maxRecDepth 100000 in
set_option maxHeartbeats 3200000 in
theorem wantsFault_any (wa : Option Addr) (wc : Nat) (W : List Wn) (fa : Option Addr) (fc : Nat) (F : List Int) (ca : Option Addr) (cc n : Nat) (D : Nat → Int) (P : Nat → List Int) (w : World) (h : RdF w wa W fa F ca D P n) (hR : RightC D P n) (hWl : W.length ≤ 1048576) (hFl : F.length ≤ 1048576) :
    Calls Tryz.prog 56 #[fetV wa W.length wc fa F.length fc ca n cc] w fun e w' => e = .returned (.int .i64 (firstBad (wFault W F (keysC D n)) 0 W.length)) ∧ Below w.heap.size w w' := by
  obtain ⟨i1, ki, kz0, kz1, kz2⟩ := info_parts Tryz.infoPW
  have HC := hide h.chunks
  have HF := hide h.failed
  have HW := hide h.wants
  have HRt := hide hR
  clear h hR
  have B0 := hide (below_alloc w (.cells #[.slice wa W.length wc, .slice fa F.length fc, .slice ca n cc] 28))
  have X0 := hide (Bx3.new w (.slice wa W.length wc) (.slice fa F.length fc) (.slice ca n cc) 28)
  unfold fetV
  go_enter Tryz.func56, Tryz.ntmps56
  obtain ⟨⟨t0, t1, t2⟩, t3, t4, t5⟩ := X0.out
  go_wp2_with fail
  clear t0 t1 t2 t3 t4 t5
  generalize w.alloc (.cells #[.slice wa W.length wc, .slice fa F.length fc, .slice ca n cc] 28) = W0 at *
  have KB : Hid (∀ w' : World, Below W0.heap.size W0 w' → w'.cell? ⟨w.heap.size, 1, none⟩ = some (.slice fa F.length fc) ∧ w'.cell? ⟨w.heap.size, 2, none⟩ = some (.slice ca n cc)) := hide (fun w' hb' => ⟨(X0.out.below hb').1.2.1, (X0.out.below hb').1.2.2⟩)
  have HMP := hide (fun (u : World) (hu : Below W0.heap.size W0 u) => mapChunks_any ca cc n D P u (HC.out.below (below_next B0.out hu)) HRt.out)
  go_region_held3 (fun w' => w'.cell? ⟨w.heap.size, 1, none⟩ = some (.slice fa F.length fc) ∧ w'.cell? ⟨w.heap.size, 2, none⟩ = some (.slice ca n cc)) (first | exact KB.out _ BB1.out | exact KB.out _ (Below.refl _ _).drew | exact KB.out _ (below_next BB1.out (below_alloc _ _)) | go_keep)
    ((go_at_call 54; refine (HMP.out _ (Below.refl _ _).drew).mono ?_; rintro r w1 ⟨bm, rfl, hbm, hH1, hb1⟩; have BB1 := hide ((Below.refl W0.heap.size W0).drew.trans hb1); have H1 := hide hH1; clear hH1 hb1))
  have X1 := hide (X0.out.below BB1.out)
  have B1 := hide (below_next B0.out BB1.out)
  have hs1 : w.heap.size < w1.heap.size := by have := X1.out.lt; omega
  have H1' := hide (H1.out.below (below_alloc w1 (.cells #[.slice none 0 0, .slice fa F.length fc, .map (some bm)] 97)))
  have XF := hide (Bx3.new w1 (.slice none 0 0) (.slice fa F.length fc) (.map (some bm)) 97)
  have BF := hide (below_next B1.out (below_alloc w1 (.cells #[.slice none 0 0, .slice fa F.length fc, .map (some bm)] 97)))
  obtain ⟨⟨t0, t1, t2⟩, t3, t4, t5⟩ := X1.out.below (below_alloc w1 (.cells #[.slice none 0 0, .slice fa F.length fc, .map (some bm)] 97))
  have hT0 : W0.drew.heap.size ≤ w1.heap.size := BB1.out.size
  have hbf : bm < w1.heap.size := H1.out.lt
  clear X1 B1 H1 BB1 KB HMP X0 B0
  go_wp2_with fail
  clear t0 t1 t2 t3 t4 t5
  generalize hWF : w1.alloc (.cells #[.slice none 0 0, .slice fa F.length fc, .map (some bm)] 97) = WF at *
  have hsF : WF.heap.size = w1.heap.size + 1 := by rw [← hWF]; simp
  generalize w1.heap.size = fb at *
  clear hWF
  generalize W0.drew.heap.size = T0 at *
  go_loopw [5, 16] (fun _ i wr => ∃ (k : Nat) (ps : List Nat) (a : Option Addr) (c : Nat), k ≤ W.length ∧ i = .int .i64 k ∧ Hid (Bx3 wr fb (.slice a k c) (.slice fa F.length fc) (.map (some bm))) ∧ Hid (OwnP WF.heap.size wr (.slice a k c) ps (W.take k)) ∧ Hid (Kept (fun x => x = fb) WF wr) ∧ Hid (firstBad (wFault W F (keysC D n)) 0 W.length = firstBad (wFault W F (keysC D n)) k (W.length - k))) (fun _ i _ => W.length - (intOf i).toNat)
  case atStart => exact ⟨0, [], none, 0, Nat.zero_le _, rfl, XF, hide (by simpa using OwnP.nil _ _), hide (Kept.refl _ _), hide rfl⟩
  case round =>
    obtain ⟨k, ps, a, c, hk, rfl, X, OP, KP, FB⟩ := hrel
    have BW := hide (BF.out.trans (KP.out.below (B := w.heap.size) BF.out.size (fun j hj e => by omega)))
    by_cases hlt : k < W.length
    · obtain ⟨b1, o1, rfl, hb1, hc1⟩ := HW.out (by intro e; simp [e] at hlt)
      obtain ⟨c1, c2⟩ := hc1 k hlt
      have c1 := (BW.out.cell (p := ⟨b1, o1 + k * 2, none⟩) hb1).trans c1
      have c2 := (BW.out.cell (p := ⟨b1, o1 + k * 2 + 1, none⟩) hb1).trans c2
      have HTS := hide (take_snoc hlt)
      generalize hd : (W.getD k (0, 0)).1 = d at *
      generalize ht : (W.getD k (0, 0)).2 = t at *
      have HD := hide hd
      have HT := hide ht
      clear hd ht hc1
      have A1 := hide (below_alloc wr (.cells #[.int .i64 d, .int .i64 t] 120))
      by_cases hok : okD d ∧ 0 ≤ t ∧ t < 3
      · obtain ⟨hd, ht0, ht3⟩ := hok
        have HOK := hide (And.intro hd (And.intro ht0 ht3))
        have P1 := hide (Box.new wr (.int .i64 d) (.int .i64 t) 120)
        have X1 := hide (X.out.below A1.out)
        have OP1 := hide (OP.out.below A1.out)
        have hlk : (W.take k).length = k := by simp; omega
        have HKn := knows_any fb a c ps (W.take k) fa fc F bm n T0 (lst D P n) d _ (by rw [hlk]; exact X1.out.1.1) X1.out.1.2.1 X1.out.1.2.2 OP1.out.rd ((HF.out.below BW.out).below A1.out) ((H1'.out.kept KP.out (by omega) (fun x hx => by omega)).below A1.out) (by omega) hFl (okD_wf hd)
        rw [keys_lst] at HKn
        have HKN := hide HKn
        have hdk : decide (okD d) = true := decide_eq_true hd
        have hn0 : decide (t < 0) = false := by simpa using ht0
        have hn3 : decide (3 ≤ t) = false := by simpa using ht3
        have hn0' : ¬ t < 0 := by omega
        have hn3' : ¬ 3 ≤ t := by omega
        clear HKn hd ht0 ht3
        by_cases hkn : d ∈ keysC D n ∨ d ∈ F ∨ d ∈ (W.take k).map Prod.fst
        · have HFT := hide (wFault_taken HD.out HT.out HOK.out hkn)
          rw [decide_eq_true hkn] at HKN
          clear hkn
          go_wp2_with fail
          refine (isDg_any d _).mono ?_
          rintro e w' ⟨rfl, rfl⟩
          rw [hdk]
          go_wp2_with fail
          refine HKN.out.mono ?_
          rintro e w2 ⟨rfl, hb2⟩
          have B2 := hide (below_next (below_next BW.out A1.out) hb2)
          clear hb2
          go_wp2_with fail
          go_ret
          exact ⟨ret_int (by rw [FB.out, firstBad_hit hlt HFT.out]), B2.out⟩
        · have HFT := hide (wFault_none HD.out HT.out HOK.out hkn)
          rw [decide_eq_false hkn] at HKN
          clear hkn
          go_wp2_with fail
          refine (isDg_any d _).mono ?_
          rintro e w' ⟨rfl, rfl⟩
          rw [hdk]
          go_wp2_with fail
          refine HKN.out.mono ?_
          rintro e w2 ⟨rfl, hb2⟩
          have B2 := hide hb2
          have X2 := hide (X1.out.below hb2)
          have OP2 := hide (OP1.out.below hb2)
          have P2 := hide (P1.out.below hb2)
          have R2 : Hid (w2.ownsRow WF.heap.size 123 1 (.slice a k c) k (ps.map ptrV)) := hide (by have := OP2.out.row; rw [hlk] at this; exact this)
          have hm1 : k + 1 ≤ maxLen := by unfold maxLen; omega
          have hm2 : (k + 1) * 8 ≤ 140737488355328 := by omega
          have hsw : WF.heap.size ≤ wr.heap.size := KP.out.size
          have hsz : WF.heap.size ≤ w2.heap.size := by have := B2.out.size; simp at this; omega
          obtain ⟨⟨x0, x1, x2⟩, x3, x4, x5⟩ := X2.out
          clear hb2 HKN hdk
          have hpp : ∃ p, p = wr.heap.size := ⟨_, rfl⟩
          obtain ⟨p, hpp⟩ := hpp
          have HPN : Hid (¬ p < wr.heap.size) := hide (by omega)
          rw [← hpp] at P1 P2 hsw ⊢
          clear hpp
          go_wp2_with (at_builtin; refine wpList_append_one rfl (.tmp 42) (.tmp 43) 95 rfl WF.heap.size 123 i1 (.pointer none) 1 8 Tryz.underlying95 ki kz0 kz1 kz2 rfl (by decide) _ _ _ rfl R2.out rfl rfl (by intro u hu; simp at hu; subst hu; rfl) hm1 hm2 hsz ?_; intro v' w3 hrow3 hk3; obtain ⟨a', c', rfl⟩ := ownsRow_shape hrow3; have O3 := hide hrow3; have K3 := hide hk3; have X3 := hide (X2.out.kept hk3 (fun e => by have := (R2.out.lt _ e).1; omega)); clear hrow3 hk3; obtain ⟨⟨y0, y1, y2⟩, y3, y4, y5⟩ := X3.out)
          have OP3 := hide (OP2.out.push (p := p) P2.out (by omega) (fun i hi e => by
            have h1 := (OP.out.box i hi).2.1.lt
            rw [e] at h1
            exact absurd h1 HPN.out) (by rw [hlk]; exact O3.out) (by exact K3.out) (fun b hb e => by
            have h1 := (OP.out.row.lt b hb).2
            rw [← e] at h1
            exact absurd h1 HPN.out))
          rw [← HTS.out] at OP3
          go_roundw
          case rel => exact ⟨k + 1, ps ++ [p], a', c', by omega, by go_num, hide (X3.out.set0 _), hide (OP3.out.kept (Kept.one w3 fb 0 _) (fun b hb e => by omega)), hide ((((KP.out.trans (Kept.of_below A1.out)).trans (Kept.of_below B2.out)).trans_own K3.out (fun b hb e => by have := (R2.out.lt b e).1; omega)).trans (Kept.one w3 fb 0 _)), hide (by rw [FB.out, firstBad_miss hlt HFT.out])⟩
          case measure => simp [intOf]; omega
      · have HFT := hide (wFault_range (F := F) (C := keysC D n) HD.out HT.out hok)
        by_cases hd : okD d
        · have hdk : decide (okD d) = true := decide_eq_true hd
          by_cases ht0 : t < 0
          · have hn0 : decide (t < 0) = true := by simpa using ht0
            go_wp2_with fail
            refine (isDg_any d _).mono ?_
            rintro e w' ⟨rfl, rfl⟩
            rw [hdk]
            go_wp2_with fail
            go_ret
            exact ⟨ret_int (by rw [FB.out, firstBad_hit hlt HFT.out]), below_next BW.out A1.out⟩
          · have ht3 : 3 ≤ t := by
              by_cases h : 3 ≤ t
              · exact h
              · exact absurd ⟨hd, by omega, by omega⟩ hok
            have hn0 : decide (t < 0) = false := by simpa using ht0
            have hn3 : decide (3 ≤ t) = true := by simpa using ht3
            go_wp2_with fail
            refine (isDg_any d _).mono ?_
            rintro e w' ⟨rfl, rfl⟩
            rw [hdk]
            go_wp2_with fail
            go_ret
            exact ⟨ret_int (by rw [FB.out, firstBad_hit hlt HFT.out]), below_next BW.out A1.out⟩
        · have hdk : decide (okD d) = false := decide_eq_false hd
          go_wp2_with fail
          refine (isDg_any d _).mono ?_
          rintro e w' ⟨rfl, rfl⟩
          rw [hdk]
          go_wp2_with fail
          go_ret
          exact ⟨ret_int (by rw [FB.out, firstBad_hit hlt HFT.out]), below_next BW.out A1.out⟩
    · have hkl : k = W.length := by omega
      subst hkl
      go_wp2_with fail
      go_ret
      exact ⟨ret_int (by rw [FB.out, firstBad_end (Nat.le_refl _)]), BW.out⟩
theorem fFault_range {F C : List Int} {k : Nat} {d : Int} (hd : F.getD k 0 = d) (h : ¬ okD d) : fFault F C k = some 3 := by
  unfold fFault; rw [hd, if_neg h]
theorem fFault_taken {F C : List Int} {k : Nat} {d : Int} (hd : F.getD k 0 = d) (h : okD d) (hk : d ∈ C ∨ d ∈ F.take k) : fFault F C k = some 7 := by
  unfold fFault; rw [hd, if_pos h, if_pos hk]
theorem fFault_none {F C : List Int} {k : Nat} {d : Int} (hd : F.getD k 0 = d) (h : okD d) (hk : ¬ (d ∈ C ∨ d ∈ F.take k)) : fFault F C k = none := by
  unfold fFault; rw [hd, if_pos h, if_neg hk]
theorem take_int {F : List Int} {k : Nat} (h : k < F.length) : F.take (k + 1) = F.take k ++ [F.getD k 0] := by
  have e : F.getD k 0 = F[k] := by simp [List.getD_eq_getElem?_getD, h]
  rw [e, List.take_add_one, List.getElem?_eq_getElem h]
  rfl
set_option maxRecDepth 100000 in
set_option maxHeartbeats 3200000 in
theorem failedFault_any (wa : Option Addr) (wn wc : Nat) (fa : Option Addr) (fc : Nat) (F : List Int) (ca : Option Addr) (cc n : Nat) (D : Nat → Int) (P : Nat → List Int) (w : World) (hf : Reads .i64 w fa F) (hc : RdC w ca D P n) (hR : RightC D P n) (hFl : F.length ≤ 1048576) :
    Calls Tryz.prog 57 #[fetV wa wn wc fa F.length fc ca n cc] w fun e w' => e = .returned (.int .i64 (firstBad (fFault F (keysC D n)) 0 F.length)) ∧ Below w.heap.size w w' := by
  obtain ⟨i1, ki, kz0, kz1, kz2⟩ := info_parts Tryz.infoI64
  have HC := hide hc
  have HF := hide hf
  have HRt := hide hR
  clear hc hf hR
  have B0 := hide (below_alloc w (.cells #[.slice wa wn wc, .slice fa F.length fc, .slice ca n cc] 28))
  have X0 := hide (Bx3.new w (.slice wa wn wc) (.slice fa F.length fc) (.slice ca n cc) 28)
  unfold fetV
  go_enter Tryz.func57, Tryz.ntmps57
  obtain ⟨⟨t0, t1, t2⟩, t3, t4, t5⟩ := X0.out
  go_wp2_with fail
  clear t0 t1 t2 t3 t4 t5
  generalize w.alloc (.cells #[.slice wa wn wc, .slice fa F.length fc, .slice ca n cc] 28) = W0 at *
  refine (mapChunks_any ca cc n D P W0 (HC.out.below B0.out) HRt.out).mono ?_
  rintro r w1 ⟨bm, rfl, hbm, hH1, hb1⟩
  have BB1 := hide hb1
  have H1 := hide hH1
  clear hH1 hb1
  have X1 := hide (X0.out.below BB1.out)
  have B1 := hide (below_next B0.out BB1.out)
  have hs1 : w.heap.size < w1.heap.size := by have := X1.out.lt; omega
  have H1' := hide (H1.out.below (below_alloc w1 (.cells #[.slice none 0 0, .slice none 0 0, .map (some bm)] 97)))
  have XF := hide (Bx3.new w1 (.slice none 0 0) (.slice none 0 0) (.map (some bm)) 97)
  have BF := hide (below_next B1.out (below_alloc w1 (.cells #[.slice none 0 0, .slice none 0 0, .map (some bm)] 97)))
  obtain ⟨⟨t0, t1, t2⟩, t3, t4, t5⟩ := X1.out.below (below_alloc w1 (.cells #[.slice none 0 0, .slice none 0 0, .map (some bm)] 97))
  have hT0 : W0.heap.size ≤ w1.heap.size := BB1.out.size
  have hbf : bm < w1.heap.size := H1.out.lt
  clear X1 B1 H1 BB1 X0 B0
  go_wp2_with fail
  clear t0 t1 t2 t3 t4 t5
  generalize hWF : w1.alloc (.cells #[.slice none 0 0, .slice none 0 0, .map (some bm)] 97) = WF at *
  have hsF : WF.heap.size = w1.heap.size + 1 := by rw [← hWF]; simp
  generalize w1.heap.size = fb at *
  clear hWF
  generalize W0.heap.size = T0 at *
  go_loopw [5, 14] (fun _ i wr => ∃ (k : Nat) (a : Option Addr) (c : Nat), k ≤ F.length ∧ i = .int .i64 k ∧ Hid (Bx3 wr fb (.slice none 0 0) (.slice a k c) (.map (some bm))) ∧ Hid (wr.ownsRow WF.heap.size 2 1 (.slice a k c) k ((F.take k).map (Value.int .i64))) ∧ Hid (Kept (fun x => x = fb) WF wr) ∧ Hid (firstBad (fFault F (keysC D n)) 0 F.length = firstBad (fFault F (keysC D n)) k (F.length - k))) (fun _ i _ => F.length - (intOf i).toNat)
  case atStart => exact ⟨0, none, 0, Nat.zero_le _, rfl, XF, hide (World.ownsRow_nil _ _ _ _), hide (Kept.refl _ _), hide rfl⟩
  case round =>
    obtain ⟨k, a, c, hk, rfl, X, OR, KP, FB⟩ := hrel
    have BW := hide (BF.out.trans (KP.out.below (B := w.heap.size) BF.out.size (fun j hj e => by omega)))
    by_cases hlt : k < F.length
    · obtain ⟨b1, o1, rfl, hb1, hc1⟩ := HF.out (by intro e; simp [e] at hlt)
      have c1 := (BW.out.cell (p := ⟨b1, o1 + k, none⟩) hb1).trans (hc1 k hlt)
      have HTS := hide (take_int hlt)
      generalize hd : F.getD k 0 = d at *
      have HD := hide hd
      clear hd hc1
      by_cases hd : okD d
      · have hlk : (F.take k).length = k := by simp; omega
        have HKn := knows_any fb none 0 [] [] a c (F.take k) bm n T0 (lst D P n) d wr X.out.1.1 (by rw [hlk]; exact X.out.1.2.1) X.out.1.2.2 (RdP.nil _ _) (ownsRow_own OR.out hlk.symm).reads (H1'.out.kept KP.out (by omega) (fun x hx => by omega)) (by simp) (by omega) (okD_wf hd)
        rw [keys_lst] at HKn
        have HKN := hide HKn
        have hdk : decide (okD d) = true := decide_eq_true hd
        have HOK := hide hd
        clear HKn hd
        by_cases hkn : d ∈ keysC D n ∨ d ∈ F.take k
        · have HFT := hide (fFault_taken HD.out HOK.out hkn)
          rw [decide_eq_true (show d ∈ keysC D n ∨ d ∈ F.take k ∨ d ∈ ([] : List Wn).map Prod.fst from hkn.elim Or.inl (fun h => Or.inr (Or.inl h)))] at HKN
          clear hkn
          go_wp2_with fail
          refine (isDg_any d _).mono ?_
          rintro e wr ⟨rfl, rfl⟩
          rw [hdk]
          go_wp2_with fail
          refine HKN.out.mono ?_
          rintro e w2 ⟨rfl, hb2⟩
          have B2 := hide (below_next BW.out hb2)
          clear hb2
          go_wp2_with fail
          go_ret
          exact ⟨ret_int (by rw [FB.out, firstBad_hit hlt HFT.out]), B2.out⟩
        · have HFT := hide (fFault_none HD.out HOK.out hkn)
          rw [decide_eq_false (show ¬ (d ∈ keysC D n ∨ d ∈ F.take k ∨ d ∈ ([] : List Wn).map Prod.fst) from fun h => hkn (h.elim Or.inl (fun h => h.elim Or.inr (fun h => by simp at h))))] at HKN
          clear hkn
          go_wp2_with fail
          refine (isDg_any d _).mono ?_
          rintro e wr ⟨rfl, rfl⟩
          rw [hdk]
          go_wp2_with fail
          refine HKN.out.mono ?_
          rintro e w2 ⟨rfl, hb2⟩
          have B2 := hide hb2
          have X2 := hide (X.out.below hb2)
          have R2 := hide (ownsRow_below OR.out hb2)
          have hm1 : k + 1 ≤ maxLen := by unfold maxLen; omega
          have hm2 : (k + 1) * 8 ≤ 140737488355328 := by omega
          have hsw : WF.heap.size ≤ wr.heap.size := KP.out.size
          have hsz : WF.heap.size ≤ w2.heap.size := by have := B2.out.size; omega
          obtain ⟨⟨x0, x1, x2⟩, x3, x4, x5⟩ := X2.out
          clear hb2 HKN hdk
          go_wp2_with (at_builtin; refine wpList_append_one rfl (.tmp 28) (.tmp 30) 25 rfl WF.heap.size 2 i1 (.int .i64 0) 1 8 Tryz.underlying25 ki kz0 kz1 kz2 rfl (by decide) _ _ _ rfl R2.out rfl rfl (by intro u hu; simp at hu; subst hu; rfl) hm1 hm2 hsz ?_; intro v' w3 hrow3 hk3; obtain ⟨a', c', rfl⟩ := ownsRow_shape hrow3; have O3 := hide hrow3; have K3 := hide hk3; have X3 := hide (X2.out.kept hk3 (fun e => by have := (R2.out.lt _ e).1; omega)); clear hrow3 hk3; obtain ⟨⟨y0, y1, y2⟩, y3, y4, y5⟩ := X3.out)
          go_roundw
          case rel => exact ⟨k + 1, a', c', by omega, by go_num, hide (X3.out.set1 _), hide (by rw [HTS.out, List.map_append]; exact ownsRow_kept O3.out (Kept.one w3 fb 1 _) (fun b hb e => by have := (O3.out.lt b hb).1; omega)), hide (((KP.out.trans (Kept.of_below B2.out)).trans_own K3.out (fun b hb e => by have := (R2.out.lt b e).1; omega)).trans (Kept.one w3 fb 1 _)), hide (by rw [FB.out, firstBad_miss hlt HFT.out])⟩
          case measure => simp [intOf]; omega
      · have HFT := hide (fFault_range (C := keysC D n) HD.out hd)
        have hdk : decide (okD d) = false := decide_eq_false hd
        go_wp2_with fail
        refine (isDg_any d _).mono ?_
        rintro e wr ⟨rfl, rfl⟩
        rw [hdk]
        go_wp2_with fail
        go_ret
        exact ⟨ret_int (by rw [FB.out, firstBad_hit hlt HFT.out]), BW.out⟩
    · have hkl : k = F.length := by omega
      subst hkl
      go_wp2_with fail
      go_ret
      exact ⟨ret_int (by rw [FB.out, firstBad_end (Nat.le_refl _)]), BW.out⟩
def SmallP (P : Nat → List Int) (n : Nat) : Prop := ∀ i, i < n → U8 (P i) ∧ (P i).length ≤ 1048576
set_option maxRecDepth 100000 in
set_option maxHeartbeats 1600000 in
theorem implFetchFault_any (wa : Option Addr) (wc : Nat) (W : List Wn) (fa : Option Addr) (fc : Nat) (F : List Int) (ca : Option Addr) (cc n : Nat) (D : Nat → Int) (P : Nat → List Int) (w : World) (h : RdF w wa W fa F ca D P n) (hn : n ≤ 1048576) (hP : SmallP P n) (hWl : W.length ≤ 1048576) (hFl : F.length ≤ 1048576) :
    Calls Tryz.prog 15 #[fetV wa W.length wc fa F.length fc ca n cc] w fun e w' => e = .returned (.int .i64 (fetFault W F D P n)) ∧ Below w.heap.size w w' := by
  have HR := hide h
  have HP := hide hP
  clear h hP
  have B0 := hide (below_alloc w (.cells #[.slice wa W.length wc, .slice fa F.length fc, .slice ca n cc] 28))
  have X0 := hide (Bx3.new w (.slice wa W.length wc) (.slice fa F.length fc) (.slice ca n cc) 28)
  unfold fetV
  go_enter Tryz.func15, Tryz.ntmps15
  obtain ⟨⟨t0, t1, t2⟩, t3, t4, t5⟩ := X0.out
  go_wp2_with fail
  clear t0 t1 t2 t3 t4 t5
  generalize w.alloc (.cells #[.slice wa W.length wc, .slice fa F.length fc, .slice ca n cc] 28) = W0 at *
  refine (implFault_any ca cc n D P W0 (HR.out.chunks.below B0.out) hn HP.out).mono ?_
  rintro r w1 ⟨rfl, hb1⟩
  have X1 := hide (X0.out.below hb1)
  have B1 := hide (below_next B0.out hb1)
  clear hb1 X0 B0
  by_cases hf : fault D P n = 0
  · have HRt := hide (fault_zero hf)
    have HE := hide (show fetFault W F D P n = listsFault W F (keysC D n) by rw [fetFault, hf]; simp)
    rw [hf]
    clear hf
    obtain ⟨⟨t0, t1, t2⟩, t3, t4, t5⟩ := X1.out
    by_cases hw : 12 < W.length
    · have hw1 : (12 : Int) < (W.length : Int) := by omega
      have HL := hide (show listsFault W F (keysC D n) = 2 by rw [listsFault, if_pos (Or.inl hw)])
      go_wp2_with fail
      go_ret
      exact ⟨ret_int (by rw [HE.out, HL.out]), B1.out⟩
    · have hw1 : ¬ (12 : Int) < (W.length : Int) := by omega
      by_cases hff : 40 < F.length
      · have hf1 : (40 : Int) < (F.length : Int) := by omega
        have HL := hide (show listsFault W F (keysC D n) = 2 by rw [listsFault, if_pos (Or.inr hff)])
        go_wp2_with fail
        go_ret
        exact ⟨ret_int (by rw [HE.out, HL.out]), B1.out⟩
      · have hf1 : ¬ (40 : Int) < (F.length : Int) := by omega
        have HL := hide (show listsFault W F (keysC D n) = if firstBad (wFault W F (keysC D n)) 0 W.length ≠ 0 then firstBad (wFault W F (keysC D n)) 0 W.length else firstBad (fFault F (keysC D n)) 0 F.length by rw [listsFault, if_neg (by omega)])
        have HWF := hide (wantsFault_any wa wc W fa fc F ca cc n D P w1 (HR.out.below B1.out) HRt.out hWl hFl)
        have HFF := hide (fun (u : World) (hu : Below w.heap.size w u) => failedFault_any wa W.length wc fa fc F ca cc n D P u (HR.out.failed.below hu) (HR.out.chunks.below hu) HRt.out hFl)
        unfold fetV at HWF HFF
        have HLL := hide (HE.out.trans HL.out)
        clear HL HE
        generalize firstBad (wFault W F (keysC D n)) 0 W.length = A at *
        generalize firstBad (fFault F (keysC D n)) 0 F.length = C at *
        go_wp2_with fail
        refine HWF.out.mono ?_
        rintro r w2 ⟨rfl, hb2⟩
        have X2 := hide (X1.out.below hb2)
        have B2 := hide (below_next B1.out hb2)
        clear hb2 HWF X1 B1 t0 t1 t2 t3 t4 t5
        by_cases hA : A = 0
        · subst hA
          obtain ⟨⟨t0, t1, t2⟩, t3, t4, t5⟩ := X2.out
          go_wp2_with fail
          refine (HFF.out w2 B2.out).mono ?_
          rintro r w3 ⟨rfl, hb3⟩
          have B3 := hide (below_next B2.out hb3)
          clear hb3 t0 t1 t2 t3 t4 t5
          go_wp2_with fail
          go_ret
          exact ⟨ret_int (by rw [HLL.out]; simp), B3.out⟩
        · have hA1 : (A != 0) = true := by simpa using hA
          go_wp2_with fail
          go_ret
          exact ⟨ret_int (by rw [HLL.out, if_pos hA]), B2.out⟩
  · have hf1 : (fault D P n != 0) = true := by simpa using hf
    have HE := hide (show fetFault W F D P n = fault D P n by rw [fetFault, if_pos hf])
    generalize fault D P n = A at *
    clear hf
    go_wp2_with fail
    go_ret
    exact ⟨ret_int (by rw [HE.out]), B1.out⟩
end Go.Proofs.YtfamiehfpmjljaaGreatDoor

namespace Go.Proofs.YtfamiehfpmjljaaGreatDoor
open Go.RowKit Go.Maps
set_option linter.unusedVariables false

theorem inS_any (n a b : Int) (w : World) : Calls Tryz.prog 108 #[.int .i64 n, .int .i64 a, .int .i64 b] w fun e w' => e = .returned (.bool (decide (a ≤ n ∧ n ≤ b))) ∧ w' = w := by
  by_cases h0 : a ≤ n
  · by_cases h1 : n ≤ b
    · rw [decide_eq_true ⟨h0, h1⟩]
      go_enter Tryz.func108, Tryz.ntmps108
      go_wp2
      go_ret
      exact ⟨ret_bool (by simp <;> omega), rfl⟩
    · rw [decide_eq_false (fun h => h1 h.2)]
      go_enter Tryz.func108, Tryz.ntmps108
      go_wp2
      go_ret
      exact ⟨ret_bool (by simp <;> omega), rfl⟩
  · rw [decide_eq_false (fun h => h0 h.1)]
    go_enter Tryz.func108, Tryz.ntmps108
    go_wp2
    go_ret
    exact ⟨ret_bool (by simp <;> omega), rfl⟩
theorem dgS_any (n : Int) (w : World) : Calls Tryz.prog 73 #[.int .i64 n] w fun e w' => e = .returned (.bool (decide (okD n))) ∧ w' = w := by
  have h := inS_any n 0 4294967295 w
  go_enter Tryz.func73, Tryz.ntmps73
  go_wp2_with fail
  refine h.mono ?_
  rintro e w ⟨rfl, rfl⟩
  go_wp2
  go_ret
  exact ⟨ret_bool (by by_cases h0 : 0 ≤ n <;> by_cases h1 : n ≤ 4294967295 <;> simp [okD, h0, h1]), rfl⟩
set_option maxRecDepth 100000 in
set_option maxHeartbeats 800000 in
theorem l10At_yes (fb : Nat) (a : Option Addr) (c i : Nat) (W : List Wn) (d : Int) (w : World) (h0 : w.cell? ⟨fb, 0, none⟩ = some (.slice a W.length c)) (h : RdW w a W) (hl : W.length ≤ 1048576) (hi : i < W.length) (hd : (W.getD i (0, 0)).1 = d) (hf : ∀ j, j < i → (W.getD j (0, 0)).1 ≠ d) :
    Calls Tryz.prog 48 #[.pointer (some ⟨fb, 0, none⟩), .int .i64 d] w fun e w' => e = .returned (.int .i64 i) ∧ w' = w := by
  obtain ⟨b1, o1, rfl, hb1, hc1⟩ := h (by intro e; simp [e] at hi)
  have HC := hide hc1
  have HF := hide hf
  have HD := hide hd
  clear h hc1 hf hd
  go_enter Tryz.func48, Tryz.ntmps48
  go_wp2
  go_loop [5] (fun q => ∃ k : Nat, k ≤ i ∧ q = .int .i64 k) (fun q => W.length - (intOf q).toNat)
  case atStart => exact ⟨0, Nat.zero_le _, rfl⟩
  case round =>
    obtain ⟨k, hk, rfl⟩ := hrel
    have hlt : k < W.length := by omega
    obtain ⟨c1, -⟩ := HC.out k hlt
    by_cases e : k = i
    · subst e
      rw [HD.out] at c1
      go_wp2
      go_ret
      exact ⟨rfl, rfl⟩
    · have hne : ((W.getD k (0, 0)).1 == d) = false := by simpa using HF.out k (by omega)
      generalize (W.getD k (0, 0)).1 = dd at c1 hne
      go_wp2
      go_round
      case rel => exact ⟨k + 1, by omega, by go_num⟩
      case measure => simp [intOf]; omega
set_option maxRecDepth 100000 in
set_option maxHeartbeats 800000 in
theorem l10At_no (fb : Nat) (a : Option Addr) (c : Nat) (W : List Wn) (d : Int) (w : World) (h0 : w.cell? ⟨fb, 0, none⟩ = some (.slice a W.length c)) (h : RdW w a W) (hl : W.length ≤ 1048576) (hf : ∀ j, j < W.length → (W.getD j (0, 0)).1 ≠ d) :
    Calls Tryz.prog 48 #[.pointer (some ⟨fb, 0, none⟩), .int .i64 d] w fun e w' => e = .returned (.int .i64 (-1)) ∧ w' = w := by
  have HC := hide h
  have HF := hide hf
  clear h hf
  go_enter Tryz.func48, Tryz.ntmps48
  go_wp2
  go_loop [5] (fun q => ∃ k : Nat, k ≤ W.length ∧ q = .int .i64 k) (fun q => W.length - (intOf q).toNat)
  case atStart => exact ⟨0, Nat.zero_le _, rfl⟩
  case round =>
    obtain ⟨k, hk, rfl⟩ := hrel
    by_cases hlt : k < W.length
    · obtain ⟨b1, o1, rfl, hb1, hc1⟩ := HC.out (by intro e; simp [e] at hlt)
      obtain ⟨c1, -⟩ := hc1 k hlt
      clear hc1
      have hne : ((W.getD k (0, 0)).1 == d) = false := by simpa using HF.out k hlt
      generalize (W.getD k (0, 0)).1 = dd at c1 hne
      go_wp2
      go_round
      case rel => exact ⟨k + 1, by omega, by go_num⟩
      case measure => simp [intOf]; omega
    · go_wp2
      go_ret
      exact ⟨rfl, rfl⟩
theorem first_take {W : List Wn} {k : Nat} {d : Int} (hk : k < W.length) (hd : (W.getD k (0, 0)).1 = d) : (∃ i, i < k ∧ (W.getD i (0, 0)).1 = d ∧ ∀ j, j < i → (W.getD j (0, 0)).1 ≠ d) ∧ d ∈ (W.take k).map Prod.fst ∨ (∀ j, j < k → (W.getD j (0, 0)).1 ≠ d) ∧ d ∉ (W.take k).map Prod.fst := by
  have hg : ∀ i, i < k → (W.take k).getD i (0, 0) = W.getD i (0, 0) := fun i hi => by simp [List.getD_eq_getElem?_getD, hi]
  have hl : (W.take k).length = k := by simp; omega
  by_cases h : d ∈ (W.take k).map Prod.fst
  · obtain ⟨i, hi, e⟩ := mem_keys.1 h
    rw [hl] at hi
    rw [hg i hi] at e
    obtain ⟨j, hj, e1, e2⟩ := first_at (D := fun i => (W.getD i (0, 0)).1) ⟨i, hi, e⟩
    exact Or.inl ⟨⟨j, hj, e1, e2⟩, h⟩
  · refine Or.inr ⟨fun j hj e => h (mem_keys.2 ⟨j, by rw [hl]; exact hj, by rw [hg j hj]; exact e⟩), h⟩
abbrev Lat (w : World) := InW (fun x => Below w.heap.size w x)
theorem lat_some (w : World) : Nonempty (Lat w) := ⟨⟨w, Below.refl _ _⟩⟩
theorem lat_same {f : FuncId} {args : Array Value} {w : World} {v : Value} (h : ∀ u : Lat w, Calls Tryz.prog f args u.val fun e w' => e = .returned v ∧ w' = u.val) : ∀ u : Lat w, Calls Tryz.prog f args u.val fun e w' => e = .returned v ∧ ∃ x : Lat w, w' = x.val := fun u => (h u).mono (fun e w' ⟨he, hw⟩ => ⟨he, u, hw⟩)
theorem lat_below {f : FuncId} {args : Array Value} {w : World} {v : Value} (h : ∀ u : Lat w, Calls Tryz.prog f args u.val fun e w' => e = .returned v ∧ Below u.val.heap.size u.val w') : ∀ u : Lat w, Calls Tryz.prog f args u.val fun e w' => e = .returned v ∧ ∃ x : Lat w, w' = x.val := fun u => (h u).mono (fun e w' ⟨he, hw⟩ => ⟨he, ⟨w', below_next u.ok hw⟩, rfl⟩)
set_option maxRecDepth 100000 in
set_option maxHeartbeats 3200000 in
theorem l10Wants_any (fb : Nat) (wa : Option Addr) (wc : Nat) (W : List Wn) (fa : Option Addr) (fc : Nat) (F : List Int) (ca : Option Addr) (cc n : Nat) (D : Nat → Int) (P : Nat → List Int) (w : World) (hX : Bx3 w fb (.slice wa W.length wc) (.slice fa F.length fc) (.slice ca n cc)) (h : RdF w wa W fa F ca D P n) (hn : n ≤ 1048576) (hWl : W.length ≤ 1048576) (hFl : F.length ≤ 1048576) :
    Calls Tryz.prog 91 #[.pointer (some ⟨fb, 0, none⟩)] w fun e w' => e = .returned (.int .i64 (firstBad (wFault W F (keysC D n)) 0 W.length)) ∧ Below w.heap.size w w' := by
  have HX := hide hX
  have HW := hide h.wants
  have HF := hide h.failed
  have HC := hide h.chunks
  clear hX h
  go_enter Tryz.func91, Tryz.ntmps91
  go_wp2_with fail
  go_loopw [3, 4] (fun i _ wr => ∃ k : Nat, k ≤ W.length ∧ i = .int .i64 k ∧ Hid (Below w.heap.size w wr) ∧ Hid (firstBad (wFault W F (keysC D n)) 0 W.length = firstBad (wFault W F (keysC D n)) k (W.length - k))) (fun i _ _ => W.length - (intOf i).toNat)
  case atStart => exact ⟨0, Nat.zero_le _, rfl, hide (Below.refl _ _), hide rfl⟩
  case round =>
    obtain ⟨k, hk, rfl, BW, FB⟩ := hrel
    obtain ⟨⟨x0, x1, x2⟩, -, -, -⟩ := HX.out.below BW.out
    by_cases hlt : k < W.length
    · obtain ⟨b1, o1, rfl, hb1, hc1⟩ := HW.out (by intro e; simp [e] at hlt)
      obtain ⟨c1, c2⟩ := hc1 k hlt
      have c1 := (BW.out.cell (p := ⟨b1, o1 + k * 2, none⟩) hb1).trans c1
      have c2 := (BW.out.cell (p := ⟨b1, o1 + k * 2 + 1, none⟩) hb1).trans c2
      generalize hd : (W.getD k (0, 0)).1 = d at c1
      generalize ht : (W.getD k (0, 0)).2 = t at c2
      have HD := hide hd
      have HT := hide ht
      have hFT := first_take hlt hd
      clear hd ht hc1
      have A1 := hide (below_alloc wr (.cells #[.int .i64 d, .int .i64 t] 120))
      have hklt : (k : Int) < (W.length : Int) := by omega
      by_cases hok : okD d ∧ 0 ≤ t ∧ t < 3
      · obtain ⟨hd, ht0, ht3⟩ := hok
        have HOK := hide (And.intro hd (And.intro ht0 ht3))
        have hdk : decide (okD d) = true := decide_eq_true hd
        have hin : decide ((0 : Int) ≤ t ∧ t ≤ 2) = true := decide_eq_true (by omega)
        clear hd ht0 ht3
        go_wp2_with fail
        refine (dgS_any d _).mono ?_
        rintro e w' ⟨rfl, rfl⟩
        rw [hdk]
        go_wp2_with fail
        refine (inS_any t 0 2 _).mono ?_
        rintro e w' ⟨rfl, rfl⟩
        rw [hin]
        clear x0 x1 x2 c1 c2 hdk hin
        have P1 := hide (Two.new wr (.int .i64 d) (.int .i64 t) 120)
        have B1 := hide (below_next BW.out A1.out)
        go_upto_region 7 with fail
        generalize wr.alloc (.cells #[.int .i64 d, .int .i64 t] 120) = W1 at *
        generalize wr.heap.size = p at *
        clear A1 BW
        have f1 : ∀ u : Lat W1, u.val.cell? ⟨p, 0, none⟩ = some (.int .i64 d) := fun u => (P1.out.below u.ok).1
        have f2 : ∀ u : Lat W1, u.val.cell? ⟨fb, 1, none⟩ = some (.slice fa F.length fc) := fun u => ((HX.out.below B1.out).below u.ok).1.2.1
        have f3 : ∀ u : Lat W1, u.val.cell? ⟨fb, 2, none⟩ = some (.slice ca n cc) := fun u => ((HX.out.below B1.out).below u.ok).1.2.2
        have hne := lat_some W1
        rcases hFT with ⟨⟨i, hi, hi1, hi2⟩, hmem⟩ | ⟨hfst, hmem⟩
        · have HFF := hide (wFault_taken (F := F) (C := keysC D n) HD.out HT.out HOK.out (Or.inr (Or.inr hmem)))
          have C1 := hide (lat_same fun u : Lat W1 => l10At_yes fb (some ⟨b1, o1, none⟩) wc i W d u.val ((HX.out.below B1.out).below u.ok).1.1 ((HW.out.below B1.out).below u.ok) hWl (by omega) hi1 hi2)
          have hik : ((i : Int) != (k : Int)) = true := by simp; omega
          clear hmem hi1 hi2
          refine wp_region_inv (Inv := fun x => Below W1.heap.size W1 x) (by kernel_rfl) (by kernel_rfl) (Below.refl _ _).drew ?_
          repeat (first | go_big_quiet_step (first | (go_at_call 48; exact C1.out _)) | quiet_step (fail))
          refine wpQuiet_nil ?_
          intro _ hw'
          obtain ⟨u, hw''⟩ := hw'
          subst hw''
          have B7 := hide (below_next B1.out u.ok)
          go_wp2_with fail
          go_ret
          exact ⟨ret_int (by rw [FB.out, firstBad_hit hlt HFF.out]), B7.out⟩
        · have C1 := hide (lat_same fun u : Lat W1 => l10At_yes fb (some ⟨b1, o1, none⟩) wc k W d u.val ((HX.out.below B1.out).below u.ok).1.1 ((HW.out.below B1.out).below u.ok) hWl hlt HD.out hfst)
          have C2 := hide (lat_same fun u : Lat W1 => l2Among_any fa fc F d u.val ((HF.out.below B1.out).below u.ok) hFl)
          have hik : ((k : Int) != (k : Int)) = false := by simp
          by_cases hf : d ∈ F
          · have HFF := hide (wFault_taken (F := F) (C := keysC D n) HD.out HT.out HOK.out (Or.inr (Or.inl hf)))
            rw [show F.contains d = true by simpa using hf] at C2
            clear hmem hf hfst
            refine wp_region_inv (Inv := fun x => Below W1.heap.size W1 x) (by kernel_rfl) (by kernel_rfl) (Below.refl _ _).drew ?_
            repeat (first | go_big_quiet_step (first | (go_at_call 48; exact C1.out _) | (go_at_call 66; exact C2.out _)) | quiet_step (fail))
            refine wpQuiet_nil ?_
            intro _ hw'
            obtain ⟨u, hw''⟩ := hw'
            subst hw''
            have B7 := hide (below_next B1.out u.ok)
            go_wp2_with fail
            go_ret
            exact ⟨ret_int (by rw [FB.out, firstBad_hit hlt HFF.out]), B7.out⟩
          · rw [show F.contains d = false by simpa using hf] at C2
            by_cases hc : d ∈ keysC D n
            · have HFF := hide (wFault_taken (F := F) (C := keysC D n) HD.out HT.out HOK.out (Or.inl hc))
              obtain ⟨i, hi, hi1, hi2⟩ := first_at (mem_keysC.1 hc)
              have C3 := hide (lat_same fun u : Lat W1 => l2At_yes ca cc n i d D P u.val ((HC.out.below B1.out).below u.ok) hn hi hi1 hi2)
              have hi0 : (0 : Int) ≤ (i : Int) := by omega
              clear hmem hf hfst hi1 hi2 hc
              refine wp_region_inv (Inv := fun x => Below W1.heap.size W1 x) (by kernel_rfl) (by kernel_rfl) (Below.refl _ _).drew ?_
              repeat (first | go_big_quiet_step (first | (go_at_call 48; exact C1.out _) | (go_at_call 66; exact C2.out _) | (go_at_call 92; exact C3.out _)) | quiet_step (fail))
              refine wpQuiet_nil ?_
              intro _ hw'
              obtain ⟨u, hw''⟩ := hw'
              subst hw''
              have B7 := hide (below_next B1.out u.ok)
              go_wp2_with fail
              go_ret
              exact ⟨ret_int (by rw [FB.out, firstBad_hit hlt HFF.out]), B7.out⟩
            · have HFF := hide (wFault_none (F := F) (C := keysC D n) HD.out HT.out HOK.out (fun h => h.elim hc (fun h => h.elim hf hmem)))
              have C3 := hide (lat_same fun u : Lat W1 => l2At_no ca cc n d D P u.val ((HC.out.below B1.out).below u.ok) hn (fun j hj e => hc (mem_keysC.2 ⟨j, hj, e⟩)))
              clear hmem hf hfst hc
              refine wp_region_inv (Inv := fun x => Below W1.heap.size W1 x) (by kernel_rfl) (by kernel_rfl) (Below.refl _ _).drew ?_
              repeat (first | go_big_quiet_step (first | (go_at_call 48; exact C1.out _) | (go_at_call 66; exact C2.out _) | (go_at_call 92; exact C3.out _)) | quiet_step (fail))
              refine wpQuiet_nil ?_
              intro _ hw'
              obtain ⟨u, hw''⟩ := hw'
              subst hw''
              have B7 := hide (below_next B1.out u.ok)
              go_wp2_with fail
              go_roundw
              case rel => exact ⟨k + 1, by omega, by go_num, B7, hide (by rw [FB.out, firstBad_miss hlt HFF.out])⟩
              case measure => simp [intOf]; omega
      · have HFF := hide (wFault_range (F := F) (C := keysC D n) HD.out HT.out hok)
        by_cases hd : okD d
        · have hdk : decide (okD d) = true := decide_eq_true hd
          have hin : decide ((0 : Int) ≤ t ∧ t ≤ 2) = false := decide_eq_false (fun h => hok ⟨hd, by omega, by omega⟩)
          go_wp2_with fail
          refine (dgS_any d _).mono ?_
          rintro e w' ⟨rfl, rfl⟩
          rw [hdk]
          go_wp2_with fail
          refine (inS_any t 0 2 _).mono ?_
          rintro e w' ⟨rfl, rfl⟩
          rw [hin]
          go_wp2_with fail
          go_ret
          exact ⟨ret_int (by rw [FB.out, firstBad_hit hlt HFF.out]), below_next BW.out A1.out⟩
        · have hdk : decide (okD d) = false := decide_eq_false hd
          go_wp2_with fail
          refine (dgS_any d _).mono ?_
          rintro e w' ⟨rfl, rfl⟩
          rw [hdk]
          go_wp2_with fail
          go_ret
          exact ⟨ret_int (by rw [FB.out, firstBad_hit hlt HFF.out]), below_next BW.out A1.out⟩
    · have hkl : k = W.length := by omega
      subst hkl
      go_wp2_with fail
      go_ret
      exact ⟨ret_int (by rw [FB.out, firstBad_end (Nat.le_refl _)]), BW.out⟩
theorem Reads.take {k : IntKind} {w : World} {a : Option Addr} {zs : List Int} (h : Reads k w a zs) (m : Nat) : Reads k w a (zs.take m) := by
  intro hz
  have hp : zs ≠ [] := by rintro rfl; simp at hz
  obtain ⟨b, off, rfl, hb, hc⟩ := h hp
  refine ⟨b, off, rfl, hb, fun i hi => ?_⟩
  have hi' : i < m ∧ i < zs.length := by simpa [Nat.lt_min] using hi
  rw [hc i hi'.2]
  simp [List.getD_eq_getElem?_getD, hi'.1]
set_option maxRecDepth 100000 in
set_option maxHeartbeats 3200000 in
theorem l10Fault_any (fb : Nat) (wa : Option Addr) (wc : Nat) (W : List Wn) (fa : Option Addr) (fc : Nat) (F : List Int) (ca : Option Addr) (cc n : Nat) (D : Nat → Int) (P : Nat → List Int) (w : World) (hX : Bx3 w fb (.slice wa W.length wc) (.slice fa F.length fc) (.slice ca n cc)) (h : RdF w wa W fa F ca D P n) (hn : n ≤ 1048576) (hP : SmallP P n) (hWl : W.length ≤ 1048576) (hFl : F.length ≤ 1048576) (hfc : F.length ≤ fc) :
    Calls Tryz.prog 46 #[.pointer (some ⟨fb, 0, none⟩)] w fun e w' => e = .returned (.int .i64 (fetFault W F D P n)) ∧ Below w.heap.size w w' := by
  have HX := hide hX
  have HR := hide h
  have HP := hide hP
  clear hX h hP
  go_enter Tryz.func46, Tryz.ntmps46
  obtain ⟨⟨t0, t1, t2⟩, -, -, -⟩ := HX.out
  go_wp2_with fail
  clear t0 t1 t2
  refine (specFault_any ca cc n D P w HR.out.chunks hn HP.out).mono ?_
  rintro r w1 ⟨rfl, hb1⟩
  have B1 := hide hb1
  have X1 := hide (HX.out.below hb1)
  clear hb1
  by_cases hf : fault D P n = 0
  · have HE := hide (show fetFault W F D P n = listsFault W F (keysC D n) by rw [fetFault, hf]; simp)
    rw [hf]
    clear hf
    obtain ⟨⟨t0, t1, t2⟩, -, -, -⟩ := X1.out
    by_cases hw : 12 < W.length
    · have hw1 : (12 : Int) < (W.length : Int) := by omega
      have HL := hide (show listsFault W F (keysC D n) = 2 by rw [listsFault, if_pos (Or.inl hw)])
      go_wp2_with fail
      go_ret
      exact ⟨ret_int (by rw [HE.out, HL.out]), B1.out⟩
    · have hw1 : ¬ (12 : Int) < (W.length : Int) := by omega
      by_cases hff : 40 < F.length
      · have hf1 : (40 : Int) < (F.length : Int) := by omega
        have HL := hide (show listsFault W F (keysC D n) = 2 by rw [listsFault, if_pos (Or.inr hff)])
        go_wp2_with fail
        go_ret
        exact ⟨ret_int (by rw [HE.out, HL.out]), B1.out⟩
      · have hf1 : ¬ (40 : Int) < (F.length : Int) := by omega
        have HL := hide (show listsFault W F (keysC D n) = if firstBad (wFault W F (keysC D n)) 0 W.length ≠ 0 then firstBad (wFault W F (keysC D n)) 0 W.length else firstBad (fFault F (keysC D n)) 0 F.length by rw [listsFault, if_neg (by omega)])
        have HLL := hide (HE.out.trans HL.out)
        have HWF := hide (l10Wants_any fb wa wc W fa fc F ca cc n D P w1 X1.out (HR.out.below B1.out) hn hWl hFl)
        clear HL HE
        generalize firstBad (wFault W F (keysC D n)) 0 W.length = A at *
        go_wp2_with fail
        refine HWF.out.mono ?_
        rintro r w2 ⟨rfl, hb2⟩
        have X2 := hide (X1.out.below hb2)
        have B2 := hide (below_next B1.out hb2)
        clear hb2 HWF X1 B1 t0 t1 t2
        by_cases hA : A = 0
        · subst hA
          have HLF := hide (show fetFault W F D P n = firstBad (fFault F (keysC D n)) 0 F.length by rw [HLL.out]; simp)
          clear HLL
          go_wp2_with fail
          go_loopw [5] (fun i wr => ∃ k : Nat, k ≤ F.length ∧ i = .int .i64 k ∧ Hid (Below w2.heap.size w2 wr) ∧ Hid (firstBad (fFault F (keysC D n)) 0 F.length = firstBad (fFault F (keysC D n)) k (F.length - k))) (fun i _ => F.length - (intOf i).toNat)
          case atStart => exact ⟨0, Nat.zero_le _, rfl, hide (Below.refl _ _), hide rfl⟩
          case round =>
            obtain ⟨k, hk, rfl, BW, FB⟩ := hrel
            obtain ⟨⟨x0, x1, x2⟩, -, -, -⟩ := X2.out.below BW.out
            have BWW := hide (below_next B2.out BW.out)
            by_cases hlt : k < F.length
            · obtain ⟨b1, o1, hfa, hb1, hc1⟩ := HR.out.failed (by intro e; simp [e] at hlt)
              subst hfa
              have hcc := hc1 k hlt
              have c1 := (BWW.out.cell (p := ⟨b1, o1 + k, none⟩) hb1).trans hcc
              generalize hd : F.getD k 0 = d at hcc c1
              have HD := hide hd
              have hklt : (k : Int) < (F.length : Int) := by omega
              have hk0 : (0 : Int) ≤ (k : Int) := by omega
              clear hd hc1
              by_cases hd : okD d
              · have HOK := hide hd
                have hdk : decide (okD d) = true := decide_eq_true hd
                clear hd
                go_wp2_with fail
                refine (dgS_any d _).mono ?_
                rintro e wr ⟨rfl, rfl⟩
                rw [hdk]
                clear hdk
                go_upto_region 14 with fail
                clear x0 x1 x2 c1
                have f1 : ∀ u : Lat wr, u.val.cell? ⟨fb, 1, none⟩ = some (.slice (some ⟨b1, o1, none⟩) F.length fc) := fun u => ((X2.out.below BW.out).below u.ok).1.2.1
                have f2 : ∀ u : Lat wr, u.val.cell? ⟨fb, 2, none⟩ = some (.slice ca n cc) := fun u => ((X2.out.below BW.out).below u.ok).1.2.2
                have f3 : ∀ u : Lat wr, u.val.cell? ⟨b1, o1 + k, none⟩ = some (.int .i64 d) := fun u => ((below_next BWW.out u.ok).cell (p := ⟨b1, o1 + k, none⟩) hb1).trans hcc
                have hne := lat_some wr
                have hlk : (F.take k).length = k := by simp; omega
                have hkc : (k : Int) ≤ (fc : Int) := by omega
                have C2 : Hid (∀ u : Lat wr, Calls Tryz.prog 66 #[.slice (some ⟨b1, o1, none⟩) k fc, .int .i64 d] u.val fun e w' => e = .returned (.bool ((F.take k).contains d)) ∧ ∃ x : Lat wr, w' = x.val) := hide (lat_same fun u : Lat wr => by
                  have h1 := l2Among_any (some ⟨b1, o1, none⟩) fc (F.take k) d u.val (((HR.out.failed.below BWW.out).below u.ok).take k) (by omega)
                  rw [hlk] at h1
                  exact h1)
                clear hcc hlk
                by_cases hf : d ∈ F.take k
                · have HFF := hide (fFault_taken (C := keysC D n) HD.out HOK.out (Or.inr hf))
                  rw [show (F.take k).contains d = true by simpa using hf] at C2
                  clear hf
                  refine wp_region_inv (Inv := fun x => Below wr.heap.size wr x) (by kernel_rfl) (by kernel_rfl) (Below.refl _ _).drew ?_
                  repeat (first | go_big_quiet_step (first | (go_at_call 66; exact C2.out _)) | quiet_step (fail))
                  refine wpQuiet_nil ?_
                  intro _ hw'
                  obtain ⟨u, hw''⟩ := hw'
                  subst hw''
                  have B7 := hide (below_next BWW.out u.ok)
                  go_wp2_with fail
                  go_ret
                  exact ⟨ret_int (by rw [HLF.out, FB.out, firstBad_hit hlt HFF.out]), B7.out⟩
                · rw [show (F.take k).contains d = false by simpa using hf] at C2
                  by_cases hc : d ∈ keysC D n
                  · have HFF := hide (fFault_taken (F := F) HD.out HOK.out (Or.inl hc))
                    obtain ⟨i, hi, hi1, hi2⟩ := first_at (mem_keysC.1 hc)
                    have C3 := hide (lat_same fun u : Lat wr => l2At_yes ca cc n i d D P u.val ((HR.out.chunks.below BWW.out).below u.ok) hn hi hi1 hi2)
                    have hi0 : (0 : Int) ≤ (i : Int) := by omega
                    clear hf hi1 hi2 hc
                    refine wp_region_inv (Inv := fun x => Below wr.heap.size wr x) (by kernel_rfl) (by kernel_rfl) (Below.refl _ _).drew ?_
                    repeat (first | go_big_quiet_step (first | (go_at_call 66; exact C2.out _) | (go_at_call 92; exact C3.out _)) | quiet_step (fail))
                    refine wpQuiet_nil ?_
                    intro _ hw'
                    obtain ⟨u, hw''⟩ := hw'
                    subst hw''
                    have B7 := hide (below_next BWW.out u.ok)
                    go_wp2_with fail
                    go_ret
                    exact ⟨ret_int (by rw [HLF.out, FB.out, firstBad_hit hlt HFF.out]), B7.out⟩
                  · have HFF := hide (fFault_none (C := keysC D n) HD.out HOK.out (fun h => h.elim hc hf))
                    have C3 := hide (lat_same fun u : Lat wr => l2At_no ca cc n d D P u.val ((HR.out.chunks.below BWW.out).below u.ok) hn (fun j hj e => hc (mem_keysC.2 ⟨j, hj, e⟩)))
                    clear hf hc
                    refine wp_region_inv (Inv := fun x => Below wr.heap.size wr x) (by kernel_rfl) (by kernel_rfl) (Below.refl _ _).drew ?_
                    repeat (first | go_big_quiet_step (first | (go_at_call 66; exact C2.out _) | (go_at_call 92; exact C3.out _)) | quiet_step (fail))
                    refine wpQuiet_nil ?_
                    intro _ hw'
                    obtain ⟨u, hw''⟩ := hw'
                    subst hw''
                    have B7 := hide (below_next BW.out u.ok)
                    go_wp2_with fail
                    go_roundw
                    case rel => exact ⟨k + 1, by omega, by go_num, B7, hide (by rw [FB.out, firstBad_miss hlt HFF.out])⟩
                    case measure => simp [intOf]; omega
              · have HFF := hide (fFault_range (C := keysC D n) HD.out hd)
                have hdk : decide (okD d) = false := decide_eq_false hd
                go_wp2_with fail
                refine (dgS_any d _).mono ?_
                rintro e wr ⟨rfl, rfl⟩
                rw [hdk]
                go_wp2_with fail
                go_ret
                exact ⟨ret_int (by rw [HLF.out, FB.out, firstBad_hit hlt HFF.out]), BWW.out⟩
            · have hkl : k = F.length := by omega
              subst hkl
              go_wp2_with fail
              go_ret
              exact ⟨ret_int (by rw [HLF.out, FB.out, firstBad_end (Nat.le_refl _)]), BWW.out⟩
        · have hA1 : (A != 0) = true := by simpa using hA
          go_wp2_with fail
          go_ret
          exact ⟨ret_int (by rw [HLL.out, if_pos hA]), B2.out⟩
  · have hf1 : (fault D P n != 0) = true := by simpa using hf
    have HE := hide (show fetFault W F D P n = fault D P n by rw [fetFault, if_pos hf])
    generalize fault D P n = A at *
    clear hf
    go_wp2_with fail
    go_ret
    exact ⟨ret_int (by rw [HE.out]), B1.out⟩
end Go.Proofs.YtfamiehfpmjljaaGreatDoor

namespace Go.Proofs.YtfamiehfpmjljaaGreatDoor
open Go.RowKit Go.Maps
set_option linter.unusedVariables false

theorem Tryz.infoWn : (Tryz.prog.info? 120).map (fun i => (i.zero, i.size, i.bytes)) = some (some (.agg #[.int .i64 0, .int .i64 0]), 2, 16) := by kernel_rfl
def laidW (j : Nat) (W : List Wn) (i : Nat) : List Value := if i < j then [.int .i64 (W.getD i (0, 0)).1, .int .i64 (W.getD i (0, 0)).2] else [.int .i64 0, .int .i64 0]
theorem laidW_length (j : Nat) (W : List Wn) (i : Nat) : (laidW j W i).length = 2 := by unfold laidW; split <;> rfl
theorem laidW_zero (n : Nat) (W : List Wn) : (madeCells #[Value.int .i64 0, .int .i64 0] (n * 2)).toList = flat n (laidW 0 W) := by
  have hl := flat_length (n := n) (k := 2) (F := laidW 0 W) (fun i _ => laidW_length _ _ _)
  apply List.ext_getElem?
  intro p
  by_cases hp : p < n * 2
  · have e : p = p / 2 * 2 + p % 2 := by omega
    have h1 : p / 2 < n := by omega
    have h2 : p % 2 < 2 := by omega
    rw [e, flat_get (fun i _ => laidW_length _ _ _) _ _ h1 h2]
    rw [← e]
    have hm : p % 2 = 0 ∨ p % 2 = 1 := by omega
    rcases hm with hm | hm <;> simp [madeCells, hp, hm, laidW]
  · rw [List.getElem?_eq_none (by simp [madeCells]; omega), List.getElem?_eq_none (by omega)]
theorem laidW_step {n k : Nat} {W : List Wn} (hk : k < n) :
    ((flat n (laidW k W)).set (k * 2) (.int .i64 (W.getD k (0, 0)).1)).set (k * 2 + 1) (.int .i64 (W.getD k (0, 0)).2) = flat n (laidW (k + 1) W) := by
  have e := flat_set (n := n) (k := 2) (F := laidW k W) (fun i _ => laidW_length _ _ _) k 0 hk (by decide) (.int .i64 (W.getD k (0, 0)).1)
  rw [Nat.add_zero] at e
  rw [e, flat_set (k := 2) (fun i _ => by by_cases h : i = k <;> simp [h, laidW_length]) k 1 hk (by decide)]
  apply flat_congr
  intro i hi
  by_cases h : i = k
  · subst h
    simp [laidW]
  · by_cases h2 : i < k
    · have h3 : i < k + 1 := by omega
      simp [h, laidW, h2, h3]
    · have h3 : ¬ i < k + 1 := by omega
      simp [h, laidW, h2, h3]
def OwnW (B : Nat) (w : World) (v : Value) (W : List Wn) : Prop := w.ownsRow B 120 2 v W.length (flat W.length (laidW W.length W))
theorem OwnW.rd {B : Nat} {w : World} {a : Option Addr} {n c : Nat} {W : List Wn} (h : OwnW B w (.slice a n c) W) : RdW w a W := by
  intro hz
  have h0 : 0 < W.length := List.length_pos_iff.2 hz
  have hr := h
  unfold OwnW at hr
  rcases hr.2 with ⟨h', hh⟩ | ⟨g, cap, cur, h', hb, hh, hnc, hcm, hcs, htake⟩
  · omega
  · have hl : n = W.length ∧ a = some ⟨g, 0, none⟩ := by simp only [Value.slice.injEq] at h'; exact ⟨h'.2.1, h'.1⟩
    obtain ⟨rfl, rfl⟩ := hl
    refine ⟨g, 0, rfl, (hr.lt g rfl).2, fun i hi => ?_⟩
    have hf := flat_get (n := W.length) (k := 2) (F := laidW W.length W) (fun i _ => laidW_length _ _ _) i
    have c0 := World.ownsRow.cellAt hr (i * 2) (by omega)
    have c1 := World.ownsRow.cellAt hr (i * 2 + 1) (by omega)
    have f0 := hf 0 hi (by decide)
    have f1 := hf 1 hi (by decide)
    rw [Nat.add_zero] at f0
    rw [f0] at c0
    rw [f1] at c1
    simp only [laidW, if_pos hi] at c0 c1
    exact ⟨by simpa using c0, by simpa [Nat.add_assoc] using c1⟩
theorem OwnW.below {B : Nat} {w w' : World} {v : Value} {W : List Wn} (h : OwnW B w v W) (hk : Below w.heap.size w w') : OwnW B w' v W := ownsRow_below h hk
theorem OwnW.kept {S : Nat → Prop} {B : Nat} {w w' : World} {v : Value} {W : List Wn} (h : OwnW B w v W) (hk : Kept S w w') (hn : ∀ b, B ≤ b → ¬ S b) : OwnW B w' v W := ownsRow_kept h hk (fun b hb => hn b (World.ownsRow.lt h b hb).1)
theorem OwnW.mono {B B' : Nat} {w : World} {v : Value} {W : List Wn} (h : OwnW B w v W) (hb : B' ≤ B) : OwnW B' w v W := ownsRow_mono h hb
theorem OwnW.nil (B : Nat) (w : World) : OwnW B w (.slice none 0 0) [] := World.ownsRow_nil _ _ _ _
theorem laidW_snoc (W : List Wn) (d t : Int) : flat (W.length + 1) (laidW (W.length + 1) (W ++ [(d, t)])) = flat W.length (laidW W.length W) ++ [.int .i64 d, .int .i64 t] := by
  rw [flat_succ]
  congr 1
  · apply flat_congr
    intro i hi
    have h1 : i < W.length + 1 := by omega
    simp only [laidW, if_pos hi, if_pos h1, getD_snoc hi]
  · simp only [laidW, if_pos (Nat.lt_succ_self _), getD_last]
theorem OwnW.push {B : Nat} {w : World} {v : Value} {W : List Wn} {d t : Int} (h : w.ownsRow B 120 2 v (W.length + 1) (flat W.length (laidW W.length W) ++ [.int .i64 d, .int .i64 t])) : OwnW B w v (W ++ [(d, t)]) := by
  unfold OwnW
  rw [List.length_append, List.length_singleton, laidW_snoc]
  exact h
end Go.Proofs.YtfamiehfpmjljaaGreatDoor

