/-
  Texts put together: FetB FetE FetF FetW ChunksMk.
-/
import Derived.Test.YtejfcapocikjmaaGreatDoorKAsksCa2
import Derived.Test.YtejfcapocikjmaaGreatDoorKAsksCa1
import Derived.Deep.RegionHeld3
import Derived.LaidEql
import Derived.Stop.Asserts
import Derived.RowKitTokens
namespace Go.Proofs.YtejfcapocikjmaaGreatDoor
open Go.RowKit Go.Maps
set_option linter.unusedVariables false

def Bx3 (w : World) (b : Nat) (u0 u1 u2 : Value) : Prop := (w.cell? ⟨b, 0, none⟩ = some u0 ∧ w.cell? ⟨b, 1, none⟩ = some u1 ∧ w.cell? ⟨b, 2, none⟩ = some u2) ∧ w.frozen? ⟨b, 0, none⟩ = false ∧ w.frozen? ⟨b, 1, none⟩ = false ∧ w.frozen? ⟨b, 2, none⟩ = false
theorem Bx3.new (w : World) (u0 u1 u2 : Value) (t : TypeId) : Bx3 (w.alloc (.cells #[u0, u1, u2] t)) w.heap.size u0 u1 u2 := ⟨⟨by simp, by simp, by simp⟩, by simp, by simp, by simp⟩
theorem Bx3.lt {w : World} {b : Nat} {u0 u1 u2 : Value} (h : Bx3 w b u0 u1 u2) : b < w.heap.size := World.block_lt_of_cell? w ⟨b, 0, none⟩ h.1.1
theorem Bx3.kept {S : Nat → Prop} {w w' : World} {b : Nat} {u0 u1 u2 : Value} (h : Bx3 w b u0 u1 u2) (hk : Kept S w w') (hn : ¬ S b) : Bx3 w' b u0 u1 u2 :=
  ⟨⟨(hk.cell (p := ⟨b, 0, none⟩) h.lt hn).trans h.1.1, (hk.cell (p := ⟨b, 1, none⟩) h.lt hn).trans h.1.2.1, (hk.cell (p := ⟨b, 2, none⟩) h.lt hn).trans h.1.2.2⟩, (hk.frozen (p := ⟨b, 0, none⟩) h.lt hn).trans h.2.1, (hk.frozen (p := ⟨b, 1, none⟩) h.lt hn).trans h.2.2.1, (hk.frozen (p := ⟨b, 2, none⟩) h.lt hn).trans h.2.2.2⟩
theorem Bx3.below {w w' : World} {b : Nat} {u0 u1 u2 : Value} (h : Bx3 w b u0 u1 u2) (hk : Below w.heap.size w w') : Bx3 w' b u0 u1 u2 := h.kept (S := fun _ => False) (Kept.of_below hk) id
theorem Bx3.set0 {w : World} {b : Nat} {u0 u1 u2 : Value} (h : Bx3 w b u0 u1 u2) (u : Value) : Bx3 (w.setCell ⟨b, 0, none⟩ u) b u u1 u2 := by
  obtain ⟨⟨m0, m1, m2⟩, f0, f1, f2⟩ := h
  refine ⟨⟨cell_set_same m0, ?_, ?_⟩, ?_, ?_, ?_⟩
  · rw [cell_set_other (by simp)]; exact m1
  · rw [cell_set_other (by simp)]; exact m2
  · rw [World.frozen?_setCell]; exact f0
  · rw [World.frozen?_setCell]; exact f1
  · rw [World.frozen?_setCell]; exact f2
theorem Bx3.set1 {w : World} {b : Nat} {u0 u1 u2 : Value} (h : Bx3 w b u0 u1 u2) (u : Value) : Bx3 (w.setCell ⟨b, 1, none⟩ u) b u0 u u2 := by
  obtain ⟨⟨m0, m1, m2⟩, f0, f1, f2⟩ := h
  refine ⟨⟨?_, cell_set_same m1, ?_⟩, ?_, ?_, ?_⟩
  · rw [cell_set_other (by simp)]; exact m0
  · rw [cell_set_other (by simp)]; exact m2
  · rw [World.frozen?_setCell]; exact f0
  · rw [World.frozen?_setCell]; exact f1
  · rw [World.frozen?_setCell]; exact f2
theorem Kept.one (w : World) (b i : Nat) (u : Value) : Kept (fun x => x = b) w (w.setCell ⟨b, i, none⟩ u) := Kept.setCell (S := fun x => x = b) (p := ⟨b, i, none⟩) (Kept.refl _ w) (fun _ => rfl) u
theorem keys_lst (D : Nat → Int) (P : Nat → List Int) (n : Nat) : (lst D P n).map Prod.fst = keysC D n := by simp [lst, keysC]
def fetV (wa : Option Addr) (wn wc : Nat) (fa : Option Addr) (fn fc : Nat) (ca : Option Addr) (cn cc : Nat) : Value := .agg #[.slice wa wn wc, .slice fa fn fc, .slice ca cn cc]
structure RdF (w : World) (wa : Option Addr) (W : List Wn) (fa : Option Addr) (F : List Int) (ca : Option Addr) (D : Nat → Int) (P : Nat → List Int) (n : Nat) : Prop where
  wants : RdW w wa W
  failed : Reads .i64 w fa F
  chunks : RdC w ca D P n
theorem RdF.below {w w' : World} {wa : Option Addr} {W : List Wn} {fa : Option Addr} {F : List Int} {ca : Option Addr} {D : Nat → Int} {P : Nat → List Int} {n : Nat} (h : RdF w wa W fa F ca D P n) (hb : Below w.heap.size w w') : RdF w' wa W fa F ca D P n := ⟨h.wants.below hb, h.failed.below hb, h.chunks.below hb⟩
theorem Tryz.infoPW : (Tryz.prog.info? 85).map (fun i => (i.zero, i.size, i.bytes)) = some (some (.pointer none), 1, 8) := by kernel_rfl
theorem take_snoc {W : List Wn} {k : Nat} (h : k < W.length) : W.take (k + 1) = W.take k ++ [((W.getD k (0, 0)).1, (W.getD k (0, 0)).2)] := by
  have e : W.getD k (0, 0) = W[k] := by simp [List.getD_eq_getElem?_getD, h]
  rw [e, List.take_add_one, List.getElem?_eq_getElem h]
  rfl
theorem wFault_range {W : List Wn} {F C : List Int} {k : Nat} {d t : Int} (hd : (W.getD k (0, 0)).1 = d) (ht : (W.getD k (0, 0)).2 = t) (h : ¬ (okD d ∧ 0 ≤ t ∧ t < 3)) : wFault W F C k = some 3 := by
  unfold wFault; rw [hd, ht, if_neg h]
theorem wFault_taken {W : List Wn} {F C : List Int} {k : Nat} {d t : Int} (hd : (W.getD k (0, 0)).1 = d) (ht : (W.getD k (0, 0)).2 = t) (h : okD d ∧ 0 ≤ t ∧ t < 3) (hk : d ∈ C ∨ d ∈ F ∨ d ∈ (W.take k).map Prod.fst) : wFault W F C k = some 7 := by
  unfold wFault; rw [hd, ht, if_pos h, if_pos hk]
theorem wFault_none {W : List Wn} {F C : List Int} {k : Nat} {d t : Int} (hd : (W.getD k (0, 0)).1 = d) (ht : (W.getD k (0, 0)).2 = t) (h : okD d ∧ 0 ≤ t ∧ t < 3) (hk : ¬ (d ∈ C ∨ d ∈ F ∨ d ∈ (W.take k).map Prod.fst)) : wFault W F C k = none := by
  unfold wFault; rw [hd, ht, if_pos h, if_neg hk]
theorem okD_wf {d : Int} (h : okD d) : (Lit.int .i64 d).wf = true := i64_wf h.1 h.2
set_option maxRecDepth 100000 in
set_option maxHeartbeats 3200000 in
theorem wantsFault_any (wa : Option Addr) (wc : Nat) (W : List Wn) (fa : Option Addr) (fc : Nat) (F : List Int) (ca : Option Addr) (cc n : Nat) (D : Nat → Int) (P : Nat → List Int) (w : World) (h : RdF w wa W fa F ca D P n) (hR : RightC D P n) (hWl : W.length ≤ 1048576) (hFl : F.length ≤ 1048576) :
    Calls Tryz.prog 32 #[fetV wa W.length wc fa F.length fc ca n cc] w fun e w' => e = .returned (.int .i64 (firstBad (wFault W F (keysC D n)) 0 W.length)) ∧ Below w.heap.size w w' := by
  obtain ⟨i1, ki, kz0, kz1, kz2⟩ := info_parts Tryz.infoPW
  have HC := hide h.chunks
  have HF := hide h.failed
  have HW := hide h.wants
  have HRt := hide hR
  clear h hR
  have B0 := hide (below_alloc w (.cells #[.slice wa W.length wc, .slice fa F.length fc, .slice ca n cc] 28))
  have X0 := hide (Bx3.new w (.slice wa W.length wc) (.slice fa F.length fc) (.slice ca n cc) 28)
  unfold fetV
  go_enter Tryz.func32, Tryz.ntmps32
  obtain ⟨⟨t0, t1, t2⟩, t3, t4, t5⟩ := X0.out
  go_wp2_with fail
  clear t0 t1 t2 t3 t4 t5
  generalize w.alloc (.cells #[.slice wa W.length wc, .slice fa F.length fc, .slice ca n cc] 28) = W0 at *
  have KB : Hid (∀ w' : World, Below W0.heap.size W0 w' → w'.cell? ⟨w.heap.size, 1, none⟩ = some (.slice fa F.length fc) ∧ w'.cell? ⟨w.heap.size, 2, none⟩ = some (.slice ca n cc)) := hide (fun w' hb' => ⟨(X0.out.below hb').1.2.1, (X0.out.below hb').1.2.2⟩)
  have HMP := hide (fun (u : World) (hu : Below W0.heap.size W0 u) => mapChunks_any ca cc n D P u (HC.out.below (below_next B0.out hu)) HRt.out)
  go_region_held3 (fun w' => w'.cell? ⟨w.heap.size, 1, none⟩ = some (.slice fa F.length fc) ∧ w'.cell? ⟨w.heap.size, 2, none⟩ = some (.slice ca n cc)) (first | exact KB.out _ BB1.out | exact KB.out _ (Below.refl _ _).drew | exact KB.out _ (below_next BB1.out (below_alloc _ _)) | go_keep)
    ((go_at_call 28; refine (HMP.out _ (Below.refl _ _).drew).mono ?_; rintro r w1 ⟨bm, rfl, hbm, hH1, hb1⟩; have BB1 := hide ((Below.refl W0.heap.size W0).drew.trans hb1); have H1 := hide hH1; clear hH1 hb1))
  have X1 := hide (X0.out.below BB1.out)
  have B1 := hide (below_next B0.out BB1.out)
  have hs1 : w.heap.size < w1.heap.size := by have := X1.out.lt; omega
  have H1' := hide (H1.out.below (below_alloc w1 (.cells #[.slice none 0 0, .slice fa F.length fc, .map (some bm)] 84)))
  have XF := hide (Bx3.new w1 (.slice none 0 0) (.slice fa F.length fc) (.map (some bm)) 84)
  have BF := hide (below_next B1.out (below_alloc w1 (.cells #[.slice none 0 0, .slice fa F.length fc, .map (some bm)] 84)))
  obtain ⟨⟨t0, t1, t2⟩, t3, t4, t5⟩ := X1.out.below (below_alloc w1 (.cells #[.slice none 0 0, .slice fa F.length fc, .map (some bm)] 84))
  have hT0 : W0.drew.heap.size ≤ w1.heap.size := BB1.out.size
  have hbf : bm < w1.heap.size := H1.out.lt
  clear X1 B1 H1 BB1 KB HMP X0 B0
  go_wp2_with fail
  clear t0 t1 t2 t3 t4 t5
  generalize hWF : w1.alloc (.cells #[.slice none 0 0, .slice fa F.length fc, .map (some bm)] 84) = WF at *
  have hsF : WF.heap.size = w1.heap.size + 1 := by rw [← hWF]; simp
  generalize w1.heap.size = fb at *
  clear hWF
  generalize W0.drew.heap.size = T0 at *
  go_loopw [5, 16] (fun _ i wr => ∃ (k : Nat) (ps : List Nat) (a : Option Addr) (c : Nat), k ≤ W.length ∧ i = .int .i64 k ∧ Hid (Bx3 wr fb (.slice a k c) (.slice fa F.length fc) (.map (some bm))) ∧ Hid (OwnP WF.heap.size wr (.slice a k c) ps (W.take k)) ∧ Hid (Kept (fun x => x = fb) WF wr) ∧ Hid (firstBad (wFault W F (keysC D n)) 0 W.length = firstBad (wFault W F (keysC D n)) k (W.length - k))) (fun _ i _ => W.length - (intOf i).toNat)
  case atStart => exact ⟨0, [], none, 0, Nat.zero_le _, rfl, XF, hide (by simpa using OwnP.nil _ _), hide (Kept.refl _ _), hide rfl⟩
  case round =>
    obtain ⟨k, ps, a, c, hk, rfl, X, OP, KP, FB⟩ := hrel
    have BW := hide (BF.out.trans (KP.out.below (B := w.heap.size) BF.out.size (fun j hj e => by omega)))
    by_cases hlt : k < W.length
    · obtain ⟨b1, o1, rfl, hb1, hc1⟩ := HW.out (by intro e; simp [e] at hlt)
      obtain ⟨c1, c2⟩ := hc1 k hlt
      have c1 := (BW.out.cell (p := ⟨b1, o1 + k * 2, none⟩) hb1).trans c1
      have c2 := (BW.out.cell (p := ⟨b1, o1 + k * 2 + 1, none⟩) hb1).trans c2
      have HTS := hide (take_snoc hlt)
      generalize hd : (W.getD k (0, 0)).1 = d at *
      generalize ht : (W.getD k (0, 0)).2 = t at *
      have HD := hide hd
      have HT := hide ht
      clear hd ht hc1
      have A1 := hide (below_alloc wr (.cells #[.int .i64 d, .int .i64 t] 78))
      by_cases hok : okD d ∧ 0 ≤ t ∧ t < 3
      · obtain ⟨hd, ht0, ht3⟩ := hok
        have HOK := hide (And.intro hd (And.intro ht0 ht3))
        have P1 := hide (Box.new wr (.int .i64 d) (.int .i64 t) 78)
        have X1 := hide (X.out.below A1.out)
        have OP1 := hide (OP.out.below A1.out)
        have hlk : (W.take k).length = k := by simp; omega
        have HKn := knows_any fb a c ps (W.take k) fa fc F bm n T0 (lst D P n) d _ (by rw [hlk]; exact X1.out.1.1) X1.out.1.2.1 X1.out.1.2.2 OP1.out.rd ((HF.out.below BW.out).below A1.out) ((H1'.out.kept KP.out (by omega) (fun x hx => by omega)).below A1.out) (by omega) hFl (okD_wf hd)
        rw [keys_lst] at HKn
        have HKN := hide HKn
        have hdk : decide (okD d) = true := decide_eq_true hd
        have hn0 : decide (t < 0) = false := by simpa using ht0
        have hn3 : decide (3 ≤ t) = false := by simpa using ht3
        have hn0' : ¬ t < 0 := by omega
        have hn3' : ¬ 3 ≤ t := by omega
        clear HKn hd ht0 ht3
        by_cases hkn : d ∈ keysC D n ∨ d ∈ F ∨ d ∈ (W.take k).map Prod.fst
        · have HFT := hide (wFault_taken HD.out HT.out HOK.out hkn)
          rw [decide_eq_true hkn] at HKN
          clear hkn
          go_wp2_with fail
          refine (isDg_any d _).mono ?_
          rintro e w' ⟨rfl, rfl⟩
          rw [hdk]
          go_wp2_with fail
          refine HKN.out.mono ?_
          rintro e w2 ⟨rfl, hb2⟩
          have B2 := hide (below_next (below_next BW.out A1.out) hb2)
          clear hb2
          go_wp2_with fail
          go_ret
          exact ⟨ret_int (by rw [FB.out, firstBad_hit hlt HFT.out]), B2.out⟩
        · have HFT := hide (wFault_none HD.out HT.out HOK.out hkn)
          rw [decide_eq_false hkn] at HKN
          clear hkn
          go_wp2_with fail
          refine (isDg_any d _).mono ?_
          rintro e w' ⟨rfl, rfl⟩
          rw [hdk]
          go_wp2_with fail
          refine HKN.out.mono ?_
          rintro e w2 ⟨rfl, hb2⟩
          have B2 := hide hb2
          have X2 := hide (X1.out.below hb2)
          have OP2 := hide (OP1.out.below hb2)
          have P2 := hide (P1.out.below hb2)
          have R2 : Hid (w2.ownsRow WF.heap.size 85 1 (.slice a k c) k (ps.map ptrV)) := hide (by have := OP2.out.row; rw [hlk] at this; exact this)
          have hm1 : k + 1 ≤ maxLen := by unfold maxLen; omega
          have hm2 : (k + 1) * 8 ≤ 140737488355328 := by omega
          have hsw : WF.heap.size ≤ wr.heap.size := KP.out.size
          have hsz : WF.heap.size ≤ w2.heap.size := by have := B2.out.size; simp at this; omega
          obtain ⟨⟨x0, x1, x2⟩, x3, x4, x5⟩ := X2.out
          clear hb2 HKN hdk
          have hpp : ∃ p, p = wr.heap.size := ⟨_, rfl⟩
          obtain ⟨p, hpp⟩ := hpp
          have HPN : Hid (¬ p < wr.heap.size) := hide (by omega)
          rw [← hpp] at P1 P2 hsw ⊢
          clear hpp
          go_wp2_with (at_builtin; refine wpList_append_one rfl (.tmp 42) (.tmp 43) 82 rfl WF.heap.size 85 i1 (.pointer none) 1 8 Tryz.underlying82 ki kz0 kz1 kz2 rfl (by decide) _ _ _ rfl R2.out rfl rfl (by intro u hu; simp at hu; subst hu; rfl) hm1 hm2 hsz ?_; intro v' w3 hrow3 hk3; obtain ⟨a', c', rfl⟩ := ownsRow_shape hrow3; have O3 := hide hrow3; have K3 := hide hk3; have X3 := hide (X2.out.kept hk3 (fun e => by have := (R2.out.lt _ e).1; omega)); clear hrow3 hk3; obtain ⟨⟨y0, y1, y2⟩, y3, y4, y5⟩ := X3.out)
          have OP3 := hide (OP2.out.push (p := p) P2.out (by omega) (fun i hi e => by
            have h1 := (OP.out.box i hi).2.1.lt
            rw [e] at h1
            exact absurd h1 HPN.out) (by rw [hlk]; exact O3.out) (by exact K3.out) (fun b hb e => by
            have h1 := (OP.out.row.lt b hb).2
            rw [← e] at h1
            exact absurd h1 HPN.out))
          rw [← HTS.out] at OP3
          go_roundw
          case rel => exact ⟨k + 1, ps ++ [p], a', c', by omega, by go_num, hide (X3.out.set0 _), hide (OP3.out.kept (Kept.one w3 fb 0 _) (fun b hb e => by omega)), hide ((((KP.out.trans (Kept.of_below A1.out)).trans (Kept.of_below B2.out)).trans_own K3.out (fun b hb e => by have := (R2.out.lt b e).1; omega)).trans (Kept.one w3 fb 0 _)), hide (by rw [FB.out, firstBad_miss hlt HFT.out])⟩
          case measure => simp [intOf]; omega
      · have HFT := hide (wFault_range (F := F) (C := keysC D n) HD.out HT.out hok)
        by_cases hd : okD d
        · have hdk : decide (okD d) = true := decide_eq_true hd
          by_cases ht0 : t < 0
          · have hn0 : decide (t < 0) = true := by simpa using ht0
            go_wp2_with fail
            refine (isDg_any d _).mono ?_
            rintro e w' ⟨rfl, rfl⟩
            rw [hdk]
            go_wp2_with fail
            go_ret
            exact ⟨ret_int (by rw [FB.out, firstBad_hit hlt HFT.out]), below_next BW.out A1.out⟩
          · have ht3 : 3 ≤ t := by
              by_cases h : 3 ≤ t
              · exact h
              · exact absurd ⟨hd, by omega, by omega⟩ hok
            have hn0 : decide (t < 0) = false := by simpa using ht0
            have hn3 : decide (3 ≤ t) = true := by simpa using ht3
            go_wp2_with fail
            refine (isDg_any d _).mono ?_
            rintro e w' ⟨rfl, rfl⟩
            rw [hdk]
            go_wp2_with fail
            go_ret
            exact ⟨ret_int (by rw [FB.out, firstBad_hit hlt HFT.out]), below_next BW.out A1.out⟩
        · have hdk : decide (okD d) = false := decide_eq_false hd
          go_wp2_with fail
          refine (isDg_any d _).mono ?_
          rintro e w' ⟨rfl, rfl⟩
          rw [hdk]
          go_wp2_with fail
          go_ret
          exact ⟨ret_int (by rw [FB.out, firstBad_hit hlt HFT.out]), below_next BW.out A1.out⟩
    · have hkl : k = W.length := by omega
      subst hkl
      go_wp2_with fail
      go_ret
      exact ⟨ret_int (by rw [FB.out, firstBad_end (Nat.le_refl _)]), BW.out⟩
theorem fFault_range {F C : List Int} {k : Nat} {d : Int} (hd : F.getD k 0 = d) (h : ¬ okD d) : fFault F C k = some 3 := by
  unfold fFault; rw [hd, if_neg h]
theorem fFault_taken {F C : List Int} {k : Nat} {d : Int} (hd : F.getD k 0 = d) (h : okD d) (hk : d ∈ C ∨ d ∈ F.take k) : fFault F C k = some 7 := by
  unfold fFault; rw [hd, if_pos h, if_pos hk]
theorem fFault_none {F C : List Int} {k : Nat} {d : Int} (hd : F.getD k 0 = d) (h : okD d) (hk : ¬ (d ∈ C ∨ d ∈ F.take k)) : fFault F C k = none := by
  unfold fFault; rw [hd, if_pos h, if_neg hk]
theorem take_int {F : List Int} {k : Nat} (h : k < F.length) : F.take (k + 1) = F.take k ++ [F.getD k 0] := by
  have e : F.getD k 0 = F[k] := by simp [List.getD_eq_getElem?_getD, h]
  rw [e, List.take_add_one, List.getElem?_eq_getElem h]
  rfl
set_option maxRecDepth 100000 in
set_option maxHeartbeats 3200000 in
theorem failedFault_any (wa : Option Addr) (wn wc : Nat) (fa : Option Addr) (fc : Nat) (F : List Int) (ca : Option Addr) (cc n : Nat) (D : Nat → Int) (P : Nat → List Int) (w : World) (hf : Reads .i64 w fa F) (hc : RdC w ca D P n) (hR : RightC D P n) (hFl : F.length ≤ 1048576) :
    Calls Tryz.prog 33 #[fetV wa wn wc fa F.length fc ca n cc] w fun e w' => e = .returned (.int .i64 (firstBad (fFault F (keysC D n)) 0 F.length)) ∧ Below w.heap.size w w' := by
  obtain ⟨i1, ki, kz0, kz1, kz2⟩ := info_parts Tryz.infoI64
  have HC := hide hc
  have HF := hide hf
  have HRt := hide hR
  clear hc hf hR
  have B0 := hide (below_alloc w (.cells #[.slice wa wn wc, .slice fa F.length fc, .slice ca n cc] 28))
  have X0 := hide (Bx3.new w (.slice wa wn wc) (.slice fa F.length fc) (.slice ca n cc) 28)
  unfold fetV
  go_enter Tryz.func33, Tryz.ntmps33
  obtain ⟨⟨t0, t1, t2⟩, t3, t4, t5⟩ := X0.out
  go_wp2_with fail
  clear t0 t1 t2 t3 t4 t5
  generalize w.alloc (.cells #[.slice wa wn wc, .slice fa F.length fc, .slice ca n cc] 28) = W0 at *
  refine (mapChunks_any ca cc n D P W0 (HC.out.below B0.out) HRt.out).mono ?_
  rintro r w1 ⟨bm, rfl, hbm, hH1, hb1⟩
  have BB1 := hide hb1
  have H1 := hide hH1
  clear hH1 hb1
  have X1 := hide (X0.out.below BB1.out)
  have B1 := hide (below_next B0.out BB1.out)
  have hs1 : w.heap.size < w1.heap.size := by have := X1.out.lt; omega
  have H1' := hide (H1.out.below (below_alloc w1 (.cells #[.slice none 0 0, .slice none 0 0, .map (some bm)] 84)))
  have XF := hide (Bx3.new w1 (.slice none 0 0) (.slice none 0 0) (.map (some bm)) 84)
  have BF := hide (below_next B1.out (below_alloc w1 (.cells #[.slice none 0 0, .slice none 0 0, .map (some bm)] 84)))
  obtain ⟨⟨t0, t1, t2⟩, t3, t4, t5⟩ := X1.out.below (below_alloc w1 (.cells #[.slice none 0 0, .slice none 0 0, .map (some bm)] 84))
  have hT0 : W0.heap.size ≤ w1.heap.size := BB1.out.size
  have hbf : bm < w1.heap.size := H1.out.lt
  clear X1 B1 H1 BB1 X0 B0
  go_wp2_with fail
  clear t0 t1 t2 t3 t4 t5
  generalize hWF : w1.alloc (.cells #[.slice none 0 0, .slice none 0 0, .map (some bm)] 84) = WF at *
  have hsF : WF.heap.size = w1.heap.size + 1 := by rw [← hWF]; simp
  generalize w1.heap.size = fb at *
  clear hWF
  generalize W0.heap.size = T0 at *
  go_loopw [5, 14] (fun _ i wr => ∃ (k : Nat) (a : Option Addr) (c : Nat), k ≤ F.length ∧ i = .int .i64 k ∧ Hid (Bx3 wr fb (.slice none 0 0) (.slice a k c) (.map (some bm))) ∧ Hid (wr.ownsRow WF.heap.size 2 1 (.slice a k c) k ((F.take k).map (Value.int .i64))) ∧ Hid (Kept (fun x => x = fb) WF wr) ∧ Hid (firstBad (fFault F (keysC D n)) 0 F.length = firstBad (fFault F (keysC D n)) k (F.length - k))) (fun _ i _ => F.length - (intOf i).toNat)
  case atStart => exact ⟨0, none, 0, Nat.zero_le _, rfl, XF, hide (World.ownsRow_nil _ _ _ _), hide (Kept.refl _ _), hide rfl⟩
  case round =>
    obtain ⟨k, a, c, hk, rfl, X, OR, KP, FB⟩ := hrel
    have BW := hide (BF.out.trans (KP.out.below (B := w.heap.size) BF.out.size (fun j hj e => by omega)))
    by_cases hlt : k < F.length
    · obtain ⟨b1, o1, rfl, hb1, hc1⟩ := HF.out (by intro e; simp [e] at hlt)
      have c1 := (BW.out.cell (p := ⟨b1, o1 + k, none⟩) hb1).trans (hc1 k hlt)
      have HTS := hide (take_int hlt)
      generalize hd : F.getD k 0 = d at *
      have HD := hide hd
      clear hd hc1
      by_cases hd : okD d
      · have hlk : (F.take k).length = k := by simp; omega
        have HKn := knows_any fb none 0 [] [] a c (F.take k) bm n T0 (lst D P n) d wr X.out.1.1 (by rw [hlk]; exact X.out.1.2.1) X.out.1.2.2 (RdP.nil _ _) (ownsRow_own OR.out hlk.symm).reads (H1'.out.kept KP.out (by omega) (fun x hx => by omega)) (by simp) (by omega) (okD_wf hd)
        rw [keys_lst] at HKn
        have HKN := hide HKn
        have hdk : decide (okD d) = true := decide_eq_true hd
        have HOK := hide hd
        clear HKn hd
        by_cases hkn : d ∈ keysC D n ∨ d ∈ F.take k
        · have HFT := hide (fFault_taken HD.out HOK.out hkn)
          rw [decide_eq_true (show d ∈ keysC D n ∨ d ∈ F.take k ∨ d ∈ ([] : List Wn).map Prod.fst from hkn.elim Or.inl (fun h => Or.inr (Or.inl h)))] at HKN
          clear hkn
          go_wp2_with fail
          refine (isDg_any d _).mono ?_
          rintro e wr ⟨rfl, rfl⟩
          rw [hdk]
          go_wp2_with fail
          refine HKN.out.mono ?_
          rintro e w2 ⟨rfl, hb2⟩
          have B2 := hide (below_next BW.out hb2)
          clear hb2
          go_wp2_with fail
          go_ret
          exact ⟨ret_int (by rw [FB.out, firstBad_hit hlt HFT.out]), B2.out⟩
        · have HFT := hide (fFault_none HD.out HOK.out hkn)
          rw [decide_eq_false (show ¬ (d ∈ keysC D n ∨ d ∈ F.take k ∨ d ∈ ([] : List Wn).map Prod.fst) from fun h => hkn (h.elim Or.inl (fun h => h.elim Or.inr (fun h => by simp at h))))] at HKN
          clear hkn
          go_wp2_with fail
          refine (isDg_any d _).mono ?_
          rintro e wr ⟨rfl, rfl⟩
          rw [hdk]
          go_wp2_with fail
          refine HKN.out.mono ?_
          rintro e w2 ⟨rfl, hb2⟩
          have B2 := hide hb2
          have X2 := hide (X.out.below hb2)
          have R2 := hide (ownsRow_below OR.out hb2)
          have hm1 : k + 1 ≤ maxLen := by unfold maxLen; omega
          have hm2 : (k + 1) * 8 ≤ 140737488355328 := by omega
          have hsw : WF.heap.size ≤ wr.heap.size := KP.out.size
          have hsz : WF.heap.size ≤ w2.heap.size := by have := B2.out.size; omega
          obtain ⟨⟨x0, x1, x2⟩, x3, x4, x5⟩ := X2.out
          clear hb2 HKN hdk
          go_wp2_with (at_builtin; refine wpList_append_one rfl (.tmp 28) (.tmp 30) 25 rfl WF.heap.size 2 i1 (.int .i64 0) 1 8 Tryz.underlying25 ki kz0 kz1 kz2 rfl (by decide) _ _ _ rfl R2.out rfl rfl (by intro u hu; simp at hu; subst hu; rfl) hm1 hm2 hsz ?_; intro v' w3 hrow3 hk3; obtain ⟨a', c', rfl⟩ := ownsRow_shape hrow3; have O3 := hide hrow3; have K3 := hide hk3; have X3 := hide (X2.out.kept hk3 (fun e => by have := (R2.out.lt _ e).1; omega)); clear hrow3 hk3; obtain ⟨⟨y0, y1, y2⟩, y3, y4, y5⟩ := X3.out)
          go_roundw
          case rel => exact ⟨k + 1, a', c', by omega, by go_num, hide (X3.out.set1 _), hide (by rw [HTS.out, List.map_append]; exact ownsRow_kept O3.out (Kept.one w3 fb 1 _) (fun b hb e => by have := (O3.out.lt b hb).1; omega)), hide (((KP.out.trans (Kept.of_below B2.out)).trans_own K3.out (fun b hb e => by have := (R2.out.lt b e).1; omega)).trans (Kept.one w3 fb 1 _)), hide (by rw [FB.out, firstBad_miss hlt HFT.out])⟩
          case measure => simp [intOf]; omega
      · have HFT := hide (fFault_range (C := keysC D n) HD.out hd)
        have hdk : decide (okD d) = false := decide_eq_false hd
        go_wp2_with fail
        refine (isDg_any d _).mono ?_
        rintro e wr ⟨rfl, rfl⟩
        rw [hdk]
        go_wp2_with fail
        go_ret
        exact ⟨ret_int (by rw [FB.out, firstBad_hit hlt HFT.out]), BW.out⟩
    · have hkl : k = F.length := by omega
      subst hkl
      go_wp2_with fail
      go_ret
      exact ⟨ret_int (by rw [FB.out, firstBad_end (Nat.le_refl _)]), BW.out⟩
def SmallP (P : Nat → List Int) (n : Nat) : Prop := ∀ i, i < n → U8 (P i) ∧ (P i).length ≤ 1048576
set_option maxRecDepth 100000 in
set_option maxHeartbeats 1600000 in
theorem implFetchFault_any (wa : Option Addr) (wc : Nat) (W : List Wn) (fa : Option Addr) (fc : Nat) (F : List Int) (ca : Option Addr) (cc n : Nat) (D : Nat → Int) (P : Nat → List Int) (w : World) (h : RdF w wa W fa F ca D P n) (hn : n ≤ 1048576) (hP : SmallP P n) (hWl : W.length ≤ 1048576) (hFl : F.length ≤ 1048576) :
    Calls Tryz.prog 11 #[fetV wa W.length wc fa F.length fc ca n cc] w fun e w' => e = .returned (.int .i64 (fetFault W F D P n)) ∧ Below w.heap.size w w' := by
  have HR := hide h
  have HP := hide hP
  clear h hP
  have B0 := hide (below_alloc w (.cells #[.slice wa W.length wc, .slice fa F.length fc, .slice ca n cc] 28))
  have X0 := hide (Bx3.new w (.slice wa W.length wc) (.slice fa F.length fc) (.slice ca n cc) 28)
  unfold fetV
  go_enter Tryz.func11, Tryz.ntmps11
  obtain ⟨⟨t0, t1, t2⟩, t3, t4, t5⟩ := X0.out
  go_wp2_with fail
  clear t0 t1 t2 t3 t4 t5
  generalize w.alloc (.cells #[.slice wa W.length wc, .slice fa F.length fc, .slice ca n cc] 28) = W0 at *
  refine (implFault_any ca cc n D P W0 (HR.out.chunks.below B0.out) hn HP.out).mono ?_
  rintro r w1 ⟨rfl, hb1⟩
  have X1 := hide (X0.out.below hb1)
  have B1 := hide (below_next B0.out hb1)
  clear hb1 X0 B0
  by_cases hf : fault D P n = 0
  · have HRt := hide (fault_zero hf)
    have HE := hide (show fetFault W F D P n = listsFault W F (keysC D n) by rw [fetFault, hf]; simp)
    rw [hf]
    clear hf
    obtain ⟨⟨t0, t1, t2⟩, t3, t4, t5⟩ := X1.out
    by_cases hw : 12 < W.length
    · have hw1 : (12 : Int) < (W.length : Int) := by omega
      have HL := hide (show listsFault W F (keysC D n) = 2 by rw [listsFault, if_pos (Or.inl hw)])
      go_wp2_with fail
      go_ret
      exact ⟨ret_int (by rw [HE.out, HL.out]), B1.out⟩
    · have hw1 : ¬ (12 : Int) < (W.length : Int) := by omega
      by_cases hff : 40 < F.length
      · have hf1 : (40 : Int) < (F.length : Int) := by omega
        have HL := hide (show listsFault W F (keysC D n) = 2 by rw [listsFault, if_pos (Or.inr hff)])
        go_wp2_with fail
        go_ret
        exact ⟨ret_int (by rw [HE.out, HL.out]), B1.out⟩
      · have hf1 : ¬ (40 : Int) < (F.length : Int) := by omega
        have HL := hide (show listsFault W F (keysC D n) = if firstBad (wFault W F (keysC D n)) 0 W.length ≠ 0 then firstBad (wFault W F (keysC D n)) 0 W.length else firstBad (fFault F (keysC D n)) 0 F.length by rw [listsFault, if_neg (by omega)])
        have HWF := hide (wantsFault_any wa wc W fa fc F ca cc n D P w1 (HR.out.below B1.out) HRt.out hWl hFl)
        have HFF := hide (fun (u : World) (hu : Below w.heap.size w u) => failedFault_any wa W.length wc fa fc F ca cc n D P u (HR.out.failed.below hu) (HR.out.chunks.below hu) HRt.out hFl)
        unfold fetV at HWF HFF
        have HLL := hide (HE.out.trans HL.out)
        clear HL HE
        generalize firstBad (wFault W F (keysC D n)) 0 W.length = A at *
        generalize firstBad (fFault F (keysC D n)) 0 F.length = C at *
        go_wp2_with fail
        refine HWF.out.mono ?_
        rintro r w2 ⟨rfl, hb2⟩
        have X2 := hide (X1.out.below hb2)
        have B2 := hide (below_next B1.out hb2)
        clear hb2 HWF X1 B1 t0 t1 t2 t3 t4 t5
        by_cases hA : A = 0
        · subst hA
          obtain ⟨⟨t0, t1, t2⟩, t3, t4, t5⟩ := X2.out
          go_wp2_with fail
          refine (HFF.out w2 B2.out).mono ?_
          rintro r w3 ⟨rfl, hb3⟩
          have B3 := hide (below_next B2.out hb3)
          clear hb3 t0 t1 t2 t3 t4 t5
          go_wp2_with fail
          go_ret
          exact ⟨ret_int (by rw [HLL.out]; simp), B3.out⟩
        · have hA1 : (A != 0) = true := by simpa using hA
          go_wp2_with fail
          go_ret
          exact ⟨ret_int (by rw [HLL.out, if_pos hA]), B2.out⟩
  · have hf1 : (fault D P n != 0) = true := by simpa using hf
    have HE := hide (show fetFault W F D P n = fault D P n by rw [fetFault, if_pos hf])
    generalize fault D P n = A at *
    clear hf
    go_wp2_with fail
    go_ret
    exact ⟨ret_int (by rw [HE.out]), B1.out⟩
end Go.Proofs.YtejfcapocikjmaaGreatDoor

namespace Go.Proofs.YtejfcapocikjmaaGreatDoor
open Go.RowKit Go.Extern.Stop Go.Stop Go.Extern
set_option linter.unusedVariables false

theorem rl_valueOfP (t : Addr) (w : World) : (ReflectliteValue.unpack (.iface 118 (.pointer (some t)))).run Tryz.prog w
    = .ok (.agg #[.pointer (some ⟨4, 118, none⟩), .pointer (some ⟨w.heap.size, 0, none⟩), .int .u64 150]) (w.alloc (.cells #[.pointer (some t)] 118)) := by kernel_rfl
theorem rl_typeP (a : Addr) (w : World) : (ReflectliteValue.methodAny (ReflectliteValue.valueError "reflectlite.Value.Type" 0) (fun t _ _ _ => ReflectliteType.toType t) #[.agg #[.pointer (some ⟨4, 118, none⟩), .pointer (some a), .int .u64 150]]).run Tryz.prog w
    = .ok (.iface 167 (.agg #[.pointer (some ⟨4, 118, none⟩)])) w := by kernel_rfl
theorem rl_methodKind (h : Value) (w : World) : (Go.method 355 167 (.agg #[h]) "Kind").run Tryz.prog w = .ok (166, h) w := by kernel_rfl
theorem rl_kindP (w : World) : ((ReflectliteType.abiMethod fun t => (fun a : Nat => Value.int IntKind.u8 (a : Int)) <$> Rtype.kind t) #[.pointer (some ⟨4, 118, none⟩)]).run Tryz.prog w = .ok (.int .u8 22) w := by kernel_rfl
theorem rl_kindS (w : World) : ((ReflectliteType.abiMethod fun t => (fun a : Nat => Value.int IntKind.u8 (a : Int)) <$> Rtype.kind t) #[.pointer (some ⟨4, 97, none⟩)]).run Tryz.prog w = .ok (.int .u8 25) w := by kernel_rfl
theorem rl_m (z : Sem Value) (f : TypeId → Addr → Nat → Nat → Sem Value) (v : Value) :
    ReflectliteValue.method z f #[v] = (do match ← ReflectliteValue.parts v with | none => z | some (t, a, fl) => f t a fl (fl % 32)) := rfl
theorem rl_partsP (a : Addr) (w : World) : (ReflectliteValue.parts (.agg #[.pointer (some ⟨4, 118, none⟩), .pointer (some a), .int .u64 150])).run Tryz.prog w = .ok (some (118, a, 150)) w := by kernel_rfl
theorem rl_isNilP (a p : Addr) (W : World) (ha : W.cell? a = some (.pointer (some p))) :
    (ReflectliteValue.method (ReflectliteValue.valueError "reflectlite.Value.IsNil" 0) ReflectliteValue.isNil #[.agg #[.pointer (some ⟨4, 118, none⟩), .pointer (some a), .int .u64 150]]).run Tryz.prog W = .ok (.bool false) W := by
  rw [rl_m]
  simp only [Sem.run_bind, rl_partsP, Result.andThen]
  simp [ReflectliteValue.isNil, loadVar, isAgg, underlying, Tryz.underlying118, ha, Result.andThen]
theorem rl_methodElem (h : Value) (w : World) : (Go.method 355 167 (.agg #[h]) "Elem").run Tryz.prog w = .ok (177, .agg #[h]) w := by kernel_rfl
theorem rl_methodImplements (h : Value) (w : World) : (Go.method 355 167 (.agg #[h]) "Implements").run Tryz.prog w = .ok (178, .agg #[h]) w := by kernel_rfl
theorem rl_methodAssignableTo (h : Value) (w : World) : (Go.method 355 167 (.agg #[h]) "AssignableTo").run Tryz.prog w = .ok (175, .agg #[h]) w := by kernel_rfl
theorem rl_elemP (w : World) : (ReflectliteType.method ReflectliteType.elem #[.agg #[.pointer (some ⟨4, 118, none⟩)]]).run Tryz.prog w = .ok (.iface 167 (.agg #[.pointer (some ⟨4, 97, none⟩)])) w := by kernel_rfl
theorem rl_implementsS (w : World) : (ReflectliteType.relation "Implements" ReflectliteType.implements_ #[.agg #[.pointer (some ⟨4, 97, none⟩)], .iface 167 (.agg #[.pointer (some ⟨4, 51, none⟩)])]).run Tryz.prog w = .ok (.bool true) w := by kernel_rfl
theorem rl_typeOfS (v : Value) (w : World) : (ReflectliteType.typeOf #[.iface 97 v]).run Tryz.prog w = .ok (.iface 167 (.agg #[.pointer (some ⟨4, 97, none⟩)])) w := by kernel_rfl
theorem rl_typeOfE (v : Value) (w : World) : (ReflectliteType.typeOf #[.iface 221 v]).run Tryz.prog w = .ok (.iface 167 (.agg #[.pointer (some ⟨4, 221, none⟩)])) w := by kernel_rfl
theorem rl_assignableS (w : World) : (ReflectliteType.relation "AssignableTo" ReflectliteType.assignableTo #[.agg #[.pointer (some ⟨4, 97, none⟩)], .iface 167 (.agg #[.pointer (some ⟨4, 97, none⟩)])]).run Tryz.prog w = .ok (.bool true) w := by kernel_rfl
theorem rl_assignableE (w : World) : (ReflectliteType.relation "AssignableTo" ReflectliteType.assignableTo #[.agg #[.pointer (some ⟨4, 221, none⟩)], .iface 167 (.agg #[.pointer (some ⟨4, 97, none⟩)])]).run Tryz.prog w = .ok (.bool false) w := by kernel_rfl
theorem rl_valueOfS (d : Int) (w : World) : (ReflectliteValue.unpack (.iface 97 (.agg #[.int .i64 d]))).run Tryz.prog w
    = .ok (.agg #[.pointer (some ⟨4, 97, none⟩), .pointer (some ⟨w.heap.size, 0, none⟩), .int .u64 153]) (w.alloc (.cells #[.int .i64 d] 97)) := by kernel_rfl
theorem rl_elemOfP (w : World) : (Rtype.elem? 118).run Tryz.prog w = .ok (some 97) w := by kernel_rfl
theorem rl_mkS (p : Addr) (w : World) : (ReflectliteValue.mk 97 p ReflectliteValue.flagAddr).run Tryz.prog w = .ok (.agg #[.pointer (some ⟨4, 97, none⟩), .pointer (some p), .int .u64 409]) w := by kernel_rfl
theorem rl_elemVP (a p : Addr) (W : World) (ha : W.cell? a = some (.pointer (some p))) :
    (ReflectliteValue.method (ReflectliteValue.valueError "reflectlite.Value.Elem" 0) ReflectliteValue.elem #[.agg #[.pointer (some ⟨4, 118, none⟩), .pointer (some a), .int .u64 150]]).run Tryz.prog W
      = .ok (.agg #[.pointer (some ⟨4, 97, none⟩), .pointer (some p), .int .u64 409]) W := by
  rw [rl_m]
  simp only [Sem.run_bind, rl_partsP, Result.andThen]
  simp [ReflectliteValue.elem, loadVar, isAgg, underlying, Tryz.underlying118, ha, Result.andThen, rl_elemOfP, rl_mkS]
theorem rl_s : ∃ s1 s2 s3 s4 s5 : String, ∀ v x : Value, ReflectliteValue.set #[v, x] = (do
    let (some (dst, a, fl), some (src, b, _)) := (← ReflectliteValue.parts v, ← ReflectliteValue.parts x)
      | unsupported (.noEntry s1)
    if fl / ReflectliteValue.flagAddr % 2 == 0 then unsupported (.noEntry s2)
    let val ← loadVar src b
    if ← Rtype.directlyAssignable dst src then storeVar dst a val
    else if ← Rtype.implements dst src then
      if (← Rtype.kind src) == 20 then
        match val with
        | .nilIface => unsupported (.noEntry s3)
        | _ => storeVar dst a val
      else storeVar dst a (.iface src val)
    else panicString (s4 ++ (← Rtype.spelt src) ++ s5 ++ (← Rtype.spelt dst))
    pure (.tuple #[])) := ⟨_, _, _, _, _, fun _ _ => rfl⟩
theorem rl_partsSa (a : Addr) (w : World) : (ReflectliteValue.parts (.agg #[.pointer (some ⟨4, 97, none⟩), .pointer (some a), .int .u64 409])).run Tryz.prog w = .ok (some (97, a, 409)) w := by kernel_rfl
theorem rl_partsS (a : Addr) (w : World) : (ReflectliteValue.parts (.agg #[.pointer (some ⟨4, 97, none⟩), .pointer (some a), .int .u64 153])).run Tryz.prog w = .ok (some (97, a, 153)) w := by kernel_rfl
theorem rl_directS (w : World) : (Rtype.directlyAssignable 97 97).run Tryz.prog w = .ok true w := by kernel_rfl
theorem rl_setS (tb tq bb : Nat) (d : Int) (old : Value) (W : World) (hb : W.cell? ⟨bb, 0, none⟩ = some (.int .i64 d)) (ht : W.cell? ⟨tb, tq, none⟩ = some old) (hf : W.frozen? ⟨tb, tq, none⟩ = false) :
    (ReflectliteValue.set #[.agg #[.pointer (some ⟨4, 97, none⟩), .pointer (some ⟨tb, tq, none⟩), .int .u64 409], .agg #[.pointer (some ⟨4, 97, none⟩), .pointer (some ⟨bb, 0, none⟩), .int .u64 153]]).run Tryz.prog W
      = .ok (.tuple #[]) (W.setCell ⟨tb, tq, none⟩ (.int .i64 d)) := by
  have hl : (loadCells ⟨bb, 0, none⟩ 1).run Tryz.prog W = .ok #[.int .i64 d] W := by
    have h1 := run_loadCells_list (P := Tryz.prog) W ⟨bb, 0, none⟩ [.int .i64 d] (by
      intro j u hj
      have hj0 : j = 0 := by
        rcases Nat.eq_zero_or_pos j with h | h
        · exact h
        · rw [List.getElem?_eq_none (by simp; omega)] at hj; cases hj
      subst hj0
      obtain rfl : Value.int .i64 d = u := by simpa using hj
      have hadd : (⟨bb, 0, none⟩ : Addr).add 0 = ⟨bb, 0, none⟩ := by simp [Addr.add]
      rw [hadd]
      exact hb)
    simpa using h1
  obtain ⟨s1, s2, s3, s4, s5, hs⟩ := rl_s
  rw [hs]
  simp only [Sem.run_bind, rl_partsSa, rl_partsS, Result.andThen]
  simp [ReflectliteValue.flagAddr, loadVar, isAgg, underlying, Tryz.underlying97, hl, Result.andThen, rl_directS, storeVar, Value.cells, storeCells, Addr.add]
  rw [run_store Tryz.prog W ⟨tb, tq, none⟩ _ _ (by rfl)]
  simp [ht, hf]
set_option maxRecDepth 100000 in
set_option maxHeartbeats 4000000 in
theorem as_hit (d : Int) (tb : Nat) (old : Value) (w : World) (hg : w.cell? ⟨2, 0, none⟩ = some (.iface 167 (.agg #[.pointer (some ⟨4, 51, none⟩)]))) (ht0 : w.cell? ⟨tb, 0, none⟩ = some old) (hf0 : w.frozen? ⟨tb, 0, none⟩ = false) :
    Calls Tryz.prog 73 #[.iface 97 (.agg #[.int .i64 d]), .iface 118 (.pointer (some ⟨tb, 0, none⟩))] w fun ev w' => ev = .returned (.bool true) ∧ w'.cell? ⟨tb, 0, none⟩ = some (.int .i64 d) ∧ w'.frozen? ⟨tb, 0, none⟩ = false ∧ Kept (fun b => b = tb) w w' := by
  have h6 := @run_callFunc_extern Tryz.prog 97 _ (fun args => ReflectliteValue.unpack (args.getD 0 (.tuple #[]))) Tryz.func97 (by kernel_rfl) (by kernel_rfl) (by kernel_rfl) (by kernel_rfl)
  have h7 := @run_callFunc_extern Tryz.prog 98 _ (ReflectliteValue.methodAny (ReflectliteValue.valueError "reflectlite.Value.Type" 0) (fun t _ _ _ => ReflectliteType.toType t)) Tryz.func98 (by kernel_rfl) (by kernel_rfl) (by kernel_rfl) (by kernel_rfl)
  have h8 := @run_callFunc_extern Tryz.prog 99 _ (ReflectliteValue.method (ReflectliteValue.valueError "reflectlite.Value.IsNil" 0) ReflectliteValue.isNil) Tryz.func99 (by kernel_rfl) (by kernel_rfl) (by kernel_rfl) (by kernel_rfl)
  have h27 := @run_callFunc_extern Tryz.prog 166 _ (ReflectliteType.abiMethod fun t => do pure (.int .u8 (← Rtype.kind t))) Tryz.func166 (by kernel_rfl) (by kernel_rfl) (by kernel_rfl) (by kernel_rfl)
  have h37 := @run_callFunc_extern Tryz.prog 177 _ (ReflectliteType.method ReflectliteType.elem) Tryz.func177 (by kernel_rfl) (by kernel_rfl) (by kernel_rfl) (by kernel_rfl)
  have h38 := @run_callFunc_extern Tryz.prog 178 _ (ReflectliteType.relation "Implements" ReflectliteType.implements_) Tryz.func178 (by kernel_rfl) (by kernel_rfl) (by kernel_rfl) (by kernel_rfl)
  have h10 := @run_callFunc_extern Tryz.prog 92 _ ReflectliteType.typeOf Tryz.func92 (by kernel_rfl) (by kernel_rfl) (by kernel_rfl) (by kernel_rfl)
  have h35 := @run_callFunc_extern Tryz.prog 175 _ (ReflectliteType.relation "AssignableTo" ReflectliteType.assignableTo) Tryz.func175 (by kernel_rfl) (by kernel_rfl) (by kernel_rfl) (by kernel_rfl)
  have h11 := @run_callFunc_extern Tryz.prog 115 _ (ReflectliteValue.method (ReflectliteValue.valueError "reflectlite.Value.Elem" 0) ReflectliteValue.elem) Tryz.func115 (by kernel_rfl) (by kernel_rfl) (by kernel_rfl) (by kernel_rfl)
  have h12 := @run_callFunc_extern Tryz.prog 116 _ ReflectliteValue.set Tryz.func116 (by kernel_rfl) (by kernel_rfl) (by kernel_rfl) (by kernel_rfl)
  have tO := rl_typeOfS
  have mA := rl_methodAssignableTo
  have a25 := rl_assignableS
  have v25 := rl_valueOfS
  have f6 := rl_valueOfP
  have f7 := rl_typeP
  have mK := rl_methodKind
  have mE := rl_methodElem
  have mI := rl_methodImplements
  have k27 := rl_kindP
  have k25 := rl_kindS
  have e27 := rl_elemP
  have i25 := rl_implementsS
  let A1 : Obj := .cells #[.pointer (some ⟨tb, 0, none⟩)] 118
  let A2 : Obj := .cells #[.pointer (some ⟨4, 118, none⟩), .pointer (some ⟨w.heap.size, 0, none⟩), .int .u64 150] 145
  let A4 : Obj := .cells #[.int .i64 d] 97
  have hlt : 2 < w.heap.size := World.block_lt_of_cell? w ⟨2, 0, none⟩ hg
  have htl : tb < w.heap.size := World.block_lt_of_cell? w ⟨tb, 0, none⟩ ht0
  have n8 := rl_isNilP ⟨w.heap.size, 0, none⟩ ⟨tb, 0, none⟩ ((w.alloc A1).alloc A2) (by simp [A1, A2])
  have hg2 : ((w.alloc A1).alloc A2).cell? ⟨2, 0, none⟩ = some (.iface 167 (.agg #[.pointer (some ⟨4, 51, none⟩)])) := by
    rw [World.cell?_alloc_lt _ _ ⟨2, 0, none⟩ (by simp; omega), World.cell?_alloc_lt _ _ ⟨2, 0, none⟩ hlt]; exact hg
  have el := rl_elemVP ⟨w.heap.size, 0, none⟩ ⟨tb, 0, none⟩ (((w.alloc A1).alloc A2).alloc A2) (by rw [World.cell?_alloc_lt _ _ ⟨w.heap.size, 0, none⟩ (by simp; omega)]; simp [A1, A2])
  have st := rl_setS tb 0 (w.heap.size + 1 + 1 + 1) d old ((((w.alloc A1).alloc A2).alloc A2).alloc A4)
    (by rw [World.cell?_alloc_at _ _ _ _ (by simp)]; rfl)
    (by rw [World.cell?_alloc_lt _ _ ⟨tb, 0, none⟩ (by simp; omega), World.cell?_alloc_lt _ _ ⟨tb, 0, none⟩ (by simp; omega), World.cell?_alloc_lt _ _ ⟨tb, 0, none⟩ (by simp; omega), World.cell?_alloc_lt _ _ ⟨tb, 0, none⟩ htl]; exact ht0)
    (by rw [World.frozen?_alloc_old _ _ ⟨tb, 0, none⟩ (by simp; omega), World.frozen?_alloc_old _ _ ⟨tb, 0, none⟩ (by simp; omega), World.frozen?_alloc_old _ _ ⟨tb, 0, none⟩ (by simp; omega), World.frozen?_alloc_old _ _ ⟨tb, 0, none⟩ (Nat.ne_of_lt htl)]; exact hf0)
  have BB := hide (below_next (below_next (below_next (below_alloc w A1) (below_alloc _ A2)) (below_alloc _ A2)) (below_alloc _ A4))
  have HT0 := hide ht0
  have HF0 := hide hf0
  have fin : Hid ((((((w.alloc A1).alloc A2).alloc A2).alloc A4).setCell ⟨tb, 0, none⟩ (.int .i64 d)).cell? ⟨tb, 0, none⟩ = some (.int .i64 d) ∧ (((((w.alloc A1).alloc A2).alloc A2).alloc A4).setCell ⟨tb, 0, none⟩ (.int .i64 d)).frozen? ⟨tb, 0, none⟩ = false ∧ Kept (fun b => b = tb) w (((((w.alloc A1).alloc A2).alloc A2).alloc A4).setCell ⟨tb, 0, none⟩ (.int .i64 d))) := hide ⟨cell_set_same ((BB.out.cell (p := ⟨tb, 0, none⟩) htl).trans HT0.out), by rw [World.frozen?_setCell]; exact (BB.out.frozen (p := ⟨tb, 0, none⟩) htl).trans HF0.out, (Kept.of_below BB.out).trans (Kept.one _ _ _ _)⟩
  simp only [A1, A2, A4] at n8 hg2 el st fin
  clear BB HT0 HF0 A1 A2 A4
  go_enter Tryz.func73, Tryz.ntmps73
  go_wp2
  refine wp_loop_rounds 1 ?_
  rw [rounds_succ]
  go_wp2
  go_ret
  exact ⟨rfl, fin.out⟩
end Go.Proofs.YtejfcapocikjmaaGreatDoor

namespace Go.Proofs.YtejfcapocikjmaaGreatDoor
open Go.RowKit Go.Extern.Stop Go.Stop Go.Extern
set_option linter.unusedVariables false

structure Ge (w : World) (a0 a1 : Addr) : Prop where
  e0 : w.cell? ⟨1, 0, none⟩ = some (.iface 221 (.pointer (some a0)))
  e1 : w.cell? ⟨0, 0, none⟩ = some (.iface 221 (.pointer (some a1)))
  ty : w.cell? ⟨2, 0, none⟩ = some (.iface 167 (.agg #[.pointer (some ⟨4, 51, none⟩)]))
  ne : a0 ≠ a1
  b0 : ∃ ca ta, w.heap[a0.block]? = some (.cells ca ta (0, 0))
  b1 : ∃ ca ta, w.heap[a1.block]? = some (.cells ca ta (0, 0))
theorem Ge.below {w w' : World} {a0 a1 : Addr} (h : Ge w a0 a1) (hb : Below w.heap.size w w') : Ge w' a0 a1 := by
  obtain ⟨h0, h1, h2, h3, ⟨c0, t0, h4⟩, c1, t1, h5⟩ := h
  have l0 := World.block_lt_of_cell? w _ h0
  have l1 := World.block_lt_of_cell? w _ h1
  have l2 := World.block_lt_of_cell? w _ h2
  have k0 : a0.block < w.heap.size := by
    rcases Nat.lt_or_ge a0.block w.heap.size with h | h
    · exact h
    · rw [Array.getElem?_eq_none h] at h4; cases h4
  have k1 : a1.block < w.heap.size := by
    rcases Nat.lt_or_ge a1.block w.heap.size with h | h
    · exact h
    · rw [Array.getElem?_eq_none h] at h5; cases h5
  exact ⟨(hb.cell l0).trans h0, (hb.cell l1).trans h1, (hb.cell l2).trans h2, h3, ⟨c0, t0, (hb.block _ k0).trans h4⟩, c1, t1, (hb.block _ k1).trans h5⟩
theorem no_As (v : Value) (xT : TypeId) (w : World) : (Instr.typeAssert (.iface 221 v) xT 181 true).run Tryz.prog w = .ok (.tuple #[.nilIface, .bool false]) w := run_typeAssert_lacksB Tryz.underlying181 (by kernel_rfl) (by kernel_rfl) v xT w
theorem no_Is (v : Value) (xT : TypeId) (w : World) : (Instr.typeAssert (.iface 221 v) xT 169 true).run Tryz.prog w = .ok (.tuple #[.nilIface, .bool false]) w := run_typeAssert_lacksB Tryz.underlying169 (by kernel_rfl) (by kernel_rfl) v xT w
theorem no_Unwrap (v : Value) (xT : TypeId) (w : World) : (Instr.typeAssert (.iface 221 v) xT 171 true).run Tryz.prog w = .ok (.tuple #[.nilIface, .bool false]) w := run_typeAssert_lacksB Tryz.underlying171 (by kernel_rfl) (by kernel_rfl) v xT w
theorem no_Unwraps (v : Value) (xT : TypeId) (w : World) : (Instr.typeAssert (.iface 221 v) xT 173 true).run Tryz.prog w = .ok (.tuple #[.nilIface, .bool false]) w := run_typeAssert_lacksB Tryz.underlying173 (by kernel_rfl) (by kernel_rfl) v xT w
set_option maxRecDepth 100000 in
set_option maxHeartbeats 4000000 in
theorem as_miss (ea : Addr) (tb : Nat) (old : Value) (w : World) (hg : w.cell? ⟨2, 0, none⟩ = some (.iface 167 (.agg #[.pointer (some ⟨4, 51, none⟩)]))) (ht0 : w.cell? ⟨tb, 0, none⟩ = some old) :
    Calls Tryz.prog 73 #[.iface 221 (.pointer (some ea)), .iface 118 (.pointer (some ⟨tb, 0, none⟩))] w fun ev w' => ev = .returned (.bool false) ∧ Below w.heap.size w w' := by
  have h6 := @run_callFunc_extern Tryz.prog 97 _ (fun args => ReflectliteValue.unpack (args.getD 0 (.tuple #[]))) Tryz.func97 (by kernel_rfl) (by kernel_rfl) (by kernel_rfl) (by kernel_rfl)
  have h7 := @run_callFunc_extern Tryz.prog 98 _ (ReflectliteValue.methodAny (ReflectliteValue.valueError "reflectlite.Value.Type" 0) (fun t _ _ _ => ReflectliteType.toType t)) Tryz.func98 (by kernel_rfl) (by kernel_rfl) (by kernel_rfl) (by kernel_rfl)
  have h8 := @run_callFunc_extern Tryz.prog 99 _ (ReflectliteValue.method (ReflectliteValue.valueError "reflectlite.Value.IsNil" 0) ReflectliteValue.isNil) Tryz.func99 (by kernel_rfl) (by kernel_rfl) (by kernel_rfl) (by kernel_rfl)
  have h27 := @run_callFunc_extern Tryz.prog 166 _ (ReflectliteType.abiMethod fun t => do pure (.int .u8 (← Rtype.kind t))) Tryz.func166 (by kernel_rfl) (by kernel_rfl) (by kernel_rfl) (by kernel_rfl)
  have h37 := @run_callFunc_extern Tryz.prog 177 _ (ReflectliteType.method ReflectliteType.elem) Tryz.func177 (by kernel_rfl) (by kernel_rfl) (by kernel_rfl) (by kernel_rfl)
  have h38 := @run_callFunc_extern Tryz.prog 178 _ (ReflectliteType.relation "Implements" ReflectliteType.implements_) Tryz.func178 (by kernel_rfl) (by kernel_rfl) (by kernel_rfl) (by kernel_rfl)
  have h10 := @run_callFunc_extern Tryz.prog 92 _ ReflectliteType.typeOf Tryz.func92 (by kernel_rfl) (by kernel_rfl) (by kernel_rfl) (by kernel_rfl)
  have h35 := @run_callFunc_extern Tryz.prog 175 _ (ReflectliteType.relation "AssignableTo" ReflectliteType.assignableTo) Tryz.func175 (by kernel_rfl) (by kernel_rfl) (by kernel_rfl) (by kernel_rfl)
  have tO := rl_typeOfE
  have mA := rl_methodAssignableTo
  have a25 := rl_assignableE
  have f6 := rl_valueOfP
  have f7 := rl_typeP
  have mK := rl_methodKind
  have mE := rl_methodElem
  have mI := rl_methodImplements
  have k27 := rl_kindP
  have k25 := rl_kindS
  have e27 := rl_elemP
  have i25 := rl_implementsS
  have nA := no_As
  have nU := no_Unwrap
  have nV := no_Unwraps
  let A1 : Obj := .cells #[.pointer (some ⟨tb, 0, none⟩)] 118
  let A2 : Obj := .cells #[.pointer (some ⟨4, 118, none⟩), .pointer (some ⟨w.heap.size, 0, none⟩), .int .u64 150] 145
  have hlt : 2 < w.heap.size := World.block_lt_of_cell? w ⟨2, 0, none⟩ hg
  have n8 := rl_isNilP ⟨w.heap.size, 0, none⟩ ⟨tb, 0, none⟩ ((w.alloc A1).alloc A2) (by simp [A1, A2])
  have hg2 : ((w.alloc A1).alloc A2).cell? ⟨2, 0, none⟩ = some (.iface 167 (.agg #[.pointer (some ⟨4, 51, none⟩)])) := by
    rw [World.cell?_alloc_lt _ _ ⟨2, 0, none⟩ (by simp; omega), World.cell?_alloc_lt _ _ ⟨2, 0, none⟩ hlt]; exact hg
  have fin : Hid (Below w.heap.size w (((w.alloc A1).alloc A2).alloc A2)) := hide (below_next (below_next (below_alloc w A1) (below_alloc _ A2)) (below_alloc _ A2))
  simp only [A1, A2] at n8 hg2 fin
  clear A1 A2
  go_enter Tryz.func73, Tryz.ntmps73
  go_wp2
  refine wp_loop_rounds 1 ?_
  rw [rounds_succ]
  go_wp2
  go_ret
  exact ⟨rfl, fin.out⟩
def cmpF : Array Value → Sem Value := Extern.ReflectliteType.method fun t => do Go.Extern.Rtype.noPackHeld "Comparable" t; pure (.bool (← typeInfo t).comparable)
theorem is_comparable (w : World) : (cmpF #[.agg #[.pointer (some ⟨4, 221, none⟩)]]).run Tryz.prog w = .ok (.bool true) w := by kernel_rfl
theorem is_methodComparable (v : Value) (w : World) : (Go.method 355 167 v "Comparable").run Tryz.prog w = .ok (176, v) w := by kernel_rfl
theorem is_comp : (Tryz.prog.info? 221).map (·.comparable) = some true := by kernel_rfl
theorem is_size : (Tryz.prog.info? 243).map (·.size) = some 1 := by kernel_rfl
set_option maxRecDepth 100000 in
set_option maxHeartbeats 4000000 in
theorem is_other (a b : Addr) (ca cb : Array Value) (ta tb : TypeId) (w : World) (hne : a ≠ b) (ha : w.heap[a.block]? = some (.cells ca ta (0, 0))) (hb : w.heap[b.block]? = some (.cells cb tb (0, 0))) :
    Calls Tryz.prog 70 #[.iface 221 (.pointer (some a)), .iface 221 (.pointer (some b))] w fun e w' => e = .returned (.bool false) ∧ w' = w := by
  obtain ⟨i, hi, hcmp⟩ := Option.map_eq_some_iff.1 is_comp
  obtain ⟨j, hj, hjs⟩ := Option.map_eq_some_iff.1 is_size
  have h8 := @run_callFunc_extern Tryz.prog 92 _ ReflectliteType.typeOf Tryz.func92 (by kernel_rfl) (by kernel_rfl) (by kernel_rfl) (by kernel_rfl)
  have h32 := @run_callFunc_extern Tryz.prog 176 _ cmpF Tryz.func176 (by kernel_rfl) (by kernel_rfl) (by kernel_rfl) (by kernel_rfl)
  have tT := rl_typeOfE
  have cT := is_comparable
  have mR := is_methodComparable
  have nE := no_Is
  have uE := no_Unwrap
  have vE := no_Unwraps
  have heq := run_eql_iface_ptr_other (P := Tryz.prog) w Tryz.underlying51 Tryz.underlying221 hi hcmp hj (by rw [hjs]; decide) hne ha hb
  go_enter Tryz.func70, Tryz.ntmps70
  go_wp2
  refine wp_loop_rounds 1 ?_
  rw [rounds_succ]
  go_wp2
  go_ret
  exact ⟨rfl, rfl⟩
set_option maxHeartbeats 800000 in
theorem isFailure_yes (d : Int) (a0 a1 : Addr) (w : World) (hg : Ge w a0 a1) :
    Calls Tryz.prog 43 #[.iface 97 (.agg #[.int .i64 d])] w fun e w' => e = .returned (.bool true) ∧ Below w.heap.size w w' := by
  have hg1 := hg.below (below_alloc w (.cells #[.int .i64 0] 97))
  have HC := hide (as_hit d w.heap.size (.int .i64 0) _ hg1.ty (by simp) (by simp))
  clear hg hg1
  go_enter Tryz.func43, Tryz.ntmps43
  go_wp2_with fail
  refine HC.out.mono ?_
  rintro e w1 ⟨rfl, -, -, hk⟩
  have B1 := hide ((below_alloc w (.cells #[.int .i64 0] 97)).trans (hk.below (B := w.heap.size) (by simp) (fun k hk e => by omega)))
  clear hk
  go_wp2_with fail
  go_ret
  exact ⟨rfl, B1.out⟩
set_option maxHeartbeats 800000 in
theorem isFailure_no (ea : Addr) (a0 a1 : Addr) (w : World) (hg : Ge w a0 a1) :
    Calls Tryz.prog 43 #[.iface 221 (.pointer (some ea))] w fun e w' => e = .returned (.bool false) ∧ Below w.heap.size w w' := by
  have hg1 := hg.below (below_alloc w (.cells #[.int .i64 0] 97))
  have HC := hide (as_miss ea w.heap.size (.int .i64 0) _ hg1.ty (by simp))
  clear hg hg1
  go_enter Tryz.func43, Tryz.ntmps43
  go_wp2_with fail
  refine HC.out.mono ?_
  rintro e w1 ⟨rfl, hb⟩
  have B1 := hide (below_next (below_alloc w (.cells #[.int .i64 0] 97)) hb)
  clear hb
  go_wp2_with fail
  go_ret
  exact ⟨rfl, B1.out⟩
set_option maxHeartbeats 800000 in
theorem fetchCode_failure (d : Int) (a0 a1 : Addr) (w : World) (hg : Ge w a0 a1) :
    Calls Tryz.prog 41 #[.iface 97 (.agg #[.int .i64 d])] w fun e w' => e = .returned (.int .i64 8) ∧ Below w.heap.size w w' := by
  have HC := hide (isFailure_yes d a0 a1 w hg)
  clear hg
  go_enter Tryz.func41, Tryz.ntmps41
  go_wp2_with fail
  refine HC.out.mono ?_
  rintro e w1 ⟨rfl, hb⟩
  have B1 := hide hb
  clear hb
  go_wp2_with fail
  go_ret
  exact ⟨rfl, B1.out⟩
set_option maxHeartbeats 800000 in
theorem fetchCode_noRoom (a0 a1 : Addr) (w : World) (hg : Ge w a0 a1) :
    Calls Tryz.prog 41 #[.iface 221 (.pointer (some a1))] w fun e w' => e = .returned (.int .i64 2) ∧ Below w.heap.size w w' := by
  have HC := hide (isFailure_no a1 a0 a1 w hg)
  have HG := hide hg
  clear hg
  go_enter Tryz.func41, Tryz.ntmps41
  go_wp2_with fail
  refine HC.out.mono ?_
  rintro e w1 ⟨rfl, hb⟩
  have B1 := hide hb
  have hg1 := HG.out.below hb
  have g0 := hg1.e0
  obtain ⟨c0, t0, q0⟩ := hg1.b0
  obtain ⟨c1, t1, q1⟩ := hg1.b1
  have HI := hide (is_other a1 a0 c1 c0 t1 t0 w1 (fun e => hg1.ne e.symm) q1 q0)
  clear hb hg1 q0 q1
  go_wp2_with fail
  refine HI.out.mono ?_
  rintro e w1 ⟨rfl, rfl⟩
  go_wp2_with fail
  go_ret
  exact ⟨rfl, B1.out⟩
end Go.Proofs.YtejfcapocikjmaaGreatDoor

namespace Go.Proofs.YtejfcapocikjmaaGreatDoor
open Go.RowKit Go.Maps
set_option linter.unusedVariables false

theorem Tryz.infoWn : (Tryz.prog.info? 78).map (fun i => (i.zero, i.size, i.bytes)) = some (some (.agg #[.int .i64 0, .int .i64 0]), 2, 16) := by kernel_rfl
def laidW (j : Nat) (W : List Wn) (i : Nat) : List Value := if i < j then [.int .i64 (W.getD i (0, 0)).1, .int .i64 (W.getD i (0, 0)).2] else [.int .i64 0, .int .i64 0]
theorem laidW_length (j : Nat) (W : List Wn) (i : Nat) : (laidW j W i).length = 2 := by unfold laidW; split <;> rfl
theorem laidW_zero (n : Nat) (W : List Wn) : (madeCells #[Value.int .i64 0, .int .i64 0] (n * 2)).toList = flat n (laidW 0 W) := by
  have hl := flat_length (n := n) (k := 2) (F := laidW 0 W) (fun i _ => laidW_length _ _ _)
  apply List.ext_getElem?
  intro p
  by_cases hp : p < n * 2
  · have e : p = p / 2 * 2 + p % 2 := by omega
    have h1 : p / 2 < n := by omega
    have h2 : p % 2 < 2 := by omega
    rw [e, flat_get (fun i _ => laidW_length _ _ _) _ _ h1 h2]
    rw [← e]
    have hm : p % 2 = 0 ∨ p % 2 = 1 := by omega
    rcases hm with hm | hm <;> simp [madeCells, hp, hm, laidW]
  · rw [List.getElem?_eq_none (by simp [madeCells]; omega), List.getElem?_eq_none (by omega)]
def OwnW (B : Nat) (w : World) (v : Value) (W : List Wn) : Prop := w.ownsRow B 78 2 v W.length (flat W.length (laidW W.length W))
theorem OwnW.rd {B : Nat} {w : World} {a : Option Addr} {n c : Nat} {W : List Wn} (h : OwnW B w (.slice a n c) W) : RdW w a W := by
  intro hz
  have h0 : 0 < W.length := List.length_pos_iff.2 hz
  have hr := h
  unfold OwnW at hr
  rcases hr.2 with ⟨h', hh⟩ | ⟨g, cap, cur, h', hb, hh, hnc, hcm, hcs, htake⟩
  · omega
  · have hl : n = W.length ∧ a = some ⟨g, 0, none⟩ := by simp only [Value.slice.injEq] at h'; exact ⟨h'.2.1, h'.1⟩
    obtain ⟨rfl, rfl⟩ := hl
    refine ⟨g, 0, rfl, (hr.lt g rfl).2, fun i hi => ?_⟩
    have hf := flat_get (n := W.length) (k := 2) (F := laidW W.length W) (fun i _ => laidW_length _ _ _) i
    have c0 := World.ownsRow.cellAt hr (i * 2) (by omega)
    have c1 := World.ownsRow.cellAt hr (i * 2 + 1) (by omega)
    have f0 := hf 0 hi (by decide)
    have f1 := hf 1 hi (by decide)
    rw [Nat.add_zero] at f0
    rw [f0] at c0
    rw [f1] at c1
    simp only [laidW, if_pos hi] at c0 c1
    exact ⟨by simpa using c0, by simpa [Nat.add_assoc] using c1⟩
theorem OwnW.below {B : Nat} {w w' : World} {v : Value} {W : List Wn} (h : OwnW B w v W) (hk : Below w.heap.size w w') : OwnW B w' v W := ownsRow_below h hk
theorem OwnW.kept {S : Nat → Prop} {B : Nat} {w w' : World} {v : Value} {W : List Wn} (h : OwnW B w v W) (hk : Kept S w w') (hn : ∀ b, B ≤ b → ¬ S b) : OwnW B w' v W := ownsRow_kept h hk (fun b hb => hn b (World.ownsRow.lt h b hb).1)
theorem OwnW.mono {B B' : Nat} {w : World} {v : Value} {W : List Wn} (h : OwnW B w v W) (hb : B' ≤ B) : OwnW B' w v W := ownsRow_mono h hb
theorem OwnW.nil (B : Nat) (w : World) : OwnW B w (.slice none 0 0) [] := World.ownsRow_nil _ _ _ _
theorem laidW_snoc (W : List Wn) (d t : Int) : flat (W.length + 1) (laidW (W.length + 1) (W ++ [(d, t)])) = flat W.length (laidW W.length W) ++ [.int .i64 d, .int .i64 t] := by
  rw [flat_succ]
  congr 1
  · apply flat_congr
    intro i hi
    have h1 : i < W.length + 1 := by omega
    simp only [laidW, if_pos hi, if_pos h1, getD_snoc hi]
  · simp only [laidW, if_pos (Nat.lt_succ_self _), getD_last]
theorem OwnW.push {B : Nat} {w : World} {v : Value} {W : List Wn} {d t : Int} (h : w.ownsRow B 78 2 v (W.length + 1) (flat W.length (laidW W.length W) ++ [.int .i64 d, .int .i64 t])) : OwnW B w v (W ++ [(d, t)]) := by
  unfold OwnW
  rw [List.length_append, List.length_singleton, laidW_snoc]
  exact h
end Go.Proofs.YtejfcapocikjmaaGreatDoor

namespace Go.Proofs.YtejfcapocikjmaaGreatDoor
open Go.RowKit
set_option linter.unusedVariables false

def upd {α : Type} (f : Nat → α) (j : Nat) (x : α) : Nat → α := fun t => if t = j then x else f t
theorem upd_same {α : Type} (f : Nat → α) (j : Nat) (x : α) : upd f j x j = x := by simp [upd]
theorem upd_other {α : Type} (f : Nat → α) (j : Nat) (x : α) {t : Nat} (h : t ≠ j) : upd f j x t = f t := by simp [upd, h]

theorem GC.congr {B T : Nat} {w : World} {v : Value} {D D' : Nat → Int} {P P' : Nat → List Int} {n : Nat} (h : GC B T w v D P n) (hD : ∀ i, i < n → D' i = D i) (hP : ∀ i, i < n → P' i = P i) : GC B T w v D' P' n := by
  obtain ⟨A, C, h1, h2, h3, h4, h5⟩ := h
  refine ⟨A, C, ?_, fun i hi => by rw [hP i hi]; exact h2 i hi, h3, h4, h5⟩
  rw [flat_congr (G := chCells D P A C) (fun i hi => by simp [chCells, hD i hi, hP i hi])]
  exact h1

end Go.Proofs.YtejfcapocikjmaaGreatDoor

