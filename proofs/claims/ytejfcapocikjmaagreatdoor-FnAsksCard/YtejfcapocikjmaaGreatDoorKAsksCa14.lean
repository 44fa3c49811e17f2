/-
  Texts put together: FetBc FetBd FetO FetZa.
-/
import Derived.Test.YtejfcapocikjmaaGreatDoorKAsksCa11
import Derived.Test.YtejfcapocikjmaaGreatDoorKAsksCa13
import Derived.Test.YtejfcapocikjmaaGreatDoorKAsksCa12
import Derived.Test.YtejfcapocikjmaaGreatDoorKAsksCa5
import Derived.Deep.RegionLaw
import Derived.Deep.CutRange
import Derived.Test.YtejfcapocikjmaaGreatDoorKAsksCa6
namespace Go.Proofs.YtejfcapocikjmaaGreatDoor
open Go.RowKit Go.Maps
set_option linter.unusedVariables false

structure AtM (B ob T z0 : Nat) (w : World) (xa : Option Addr) (xc : Nat) (W : List Wn) (ya : Option Addr) (yc : Nat) (F : List Int) (za : Option Addr) (zc n : Nat) (D : Nat → Int) (P : Nat → List Int) : Prop where
  box : Bx3 w ob (.slice xa W.length xc) (.slice ya F.length yc) (.slice za n zc)
  wants : OwnW B w (.slice xa W.length xc) W
  failed : w.ownsRow B 2 1 (.slice ya F.length yc) F.length (F.map (Value.int .i64))
  chunks : GC T z0 w (.slice za n zc) D P n
  far : (Value.slice xa W.length xc).ownBlock ≠ some ob
  yfar : ∀ b, (Value.slice ya F.length yc).ownBlock = some b → b < ob
  high : z0 ≤ ob
  low : B ≤ ob
theorem AtM.below {B ob T z0 : Nat} {w : World} {xa : Option Addr} {xc : Nat} {W : List Wn} {ya : Option Addr} {yc : Nat} {F : List Int} {za : Option Addr} {zc n : Nat} {D : Nat → Int} {P : Nat → List Int} {w' : World} (h : AtM B ob T z0 w xa xc W ya yc F za zc n D P) (hb : Below w.heap.size w w') : AtM B ob T z0 w' xa xc W ya yc F za zc n D P :=
  ⟨h.box.below hb, h.wants.below hb, ownsRow_below h.failed hb, h.chunks.below hb, h.far, h.yfar, h.high, h.low⟩
theorem AtM.rd {B ob T z0 : Nat} {w : World} {xa : Option Addr} {xc : Nat} {W : List Wn} {ya : Option Addr} {yc : Nat} {F : List Int} {za : Option Addr} {zc n : Nat} {D : Nat → Int} {P : Nat → List Int} (h : AtM B ob T z0 w xa xc W ya yc F za zc n D P) : RdF w xa W ya F za D P n := ⟨h.wants.rd, reads_owned h.failed rfl, h.chunks.rd⟩
theorem askM_known {B ob T z0 : Nat} {w : World} {xa : Option Addr} {xc : Nat} {W : List Wn} {ya : Option Addr} {yc : Nat} {F : List Int} {za : Option Addr} {zc n : Nat} {D : Nat → Int} {P : Nat → List Int} (h : AtM B ob T z0 w xa xc W ya yc F za zc n D P) (d : Int) (hn : n ≤ 1048576) (hWl : W.length ≤ 1048576) (hFl : F.length ≤ 1048576) (hf : d ∉ F) (hk : d ∈ keysC D n ∨ d ∈ W.map Prod.fst) :
    Calls Tryz.prog 24 #[.pointer (some ⟨ob, 0, none⟩), .int .i64 d] w fun e w' => e = .returned (.int .i64 0) ∧ w' = w := by
  by_cases hkk : d ∈ keysC D n
  · obtain ⟨i0, hi0, e0⟩ := mem_keysC.1 hkk
    obtain ⟨i, hi, e, hfi⟩ := first_of i0 e0
    exact l10Ask_held ob i xa xc W ya yc F za zc n D P d w h.box h.rd hn hFl hf (by omega) e hfi
  · obtain ⟨i, hi, e, hfi⟩ := want_at (hk.resolve_left hkk)
    exact l10Ask_wanted ob i xa xc W ya yc F za zc n D P d w h.box h.rd hn hWl hFl hf (fun j hj e => hkk (mem_keysC.2 ⟨j, hj, e⟩)) hi e hfi
theorem askM_many {B ob T z0 : Nat} {w : World} {xa : Option Addr} {xc : Nat} {W : List Wn} {ya : Option Addr} {yc : Nat} {F : List Int} {za : Option Addr} {zc n : Nat} {D : Nat → Int} {P : Nat → List Int} (h : AtM B ob T z0 w xa xc W ya yc F za zc n D P) (d : Int) (hn : n ≤ 1048576) (hWl : W.length ≤ 1048576) (hFl : F.length ≤ 1048576) (hf : d ∉ F) (hk : ¬ (d ∈ keysC D n ∨ d ∈ W.map Prod.fst)) (hm : 12 ≤ W.length) :
    Calls Tryz.prog 24 #[.pointer (some ⟨ob, 0, none⟩), .int .i64 d] w fun e w' => e = .returned (.int .i64 2) ∧ w' = w :=
  l10Ask_many ob xa xc W ya yc F za zc n D P d w h.box h.rd hn hWl hFl hf (fun j hj e => hk (.inl (mem_keysC.2 ⟨j, hj, e⟩))) (want_no (fun h => hk (.inr h))) hm
theorem askM_new {B ob T z0 : Nat} {w : World} {xa : Option Addr} {xc : Nat} {W : List Wn} {ya : Option Addr} {yc : Nat} {F : List Int} {za : Option Addr} {zc n : Nat} {D : Nat → Int} {P : Nat → List Int} (h : AtM B ob T z0 w xa xc W ya yc F za zc n D P) (d : Int) (hn : n ≤ 1048576) (hWl : W.length ≤ 1048576) (hFl : F.length ≤ 1048576) (hf : d ∉ F) (hk : ¬ (d ∈ keysC D n ∨ d ∈ W.map Prod.fst)) (hm : ¬ 12 ≤ W.length) :
    Calls Tryz.prog 24 #[.pointer (some ⟨ob, 0, none⟩), .int .i64 d] w fun e w' => e = .returned (.int .i64 0) ∧ (∃ ua uc, AtM B ob T z0 w' ua uc (W ++ [(d, 0)]) ya yc F za zc n D P) ∧ Kept (fun b => b = ob ∨ (Value.slice xa W.length xc).ownBlock = some b) w w' := by
  refine (l10Ask_new B ob xa xc W ya yc F za zc n D P d w h.box h.rd h.wants (by have := h.box.lt; have := h.low; omega) h.far hn hWl hFl hf (fun j hj e => hk (.inl (mem_keysC.2 ⟨j, hj, e⟩))) (want_no (fun h => hk (.inr h))) hm).mono ?_
  rintro e w' ⟨rfl, ua, uc, hX, hW, hK⟩
  refine ⟨rfl, ⟨ua, uc, hX, hW, ?_, ?_, ?_, h.yfar, h.high, h.low⟩, hK⟩
  · refine ownsRow_kept h.failed hK (fun b hb e => ?_)
    rcases e with e | e
    · have := h.yfar b hb; omega
    · exact rows_apart h.wants h.failed (by decide) e hb
  · obtain ⟨A, C, k1, k2, k3, k4, k5⟩ := h.chunks
    have hob := h.high
    refine ⟨A, C, ownsRow_kept k1 hK (fun b hb e => ?_), fun i hi => ownsRow_kept (k2 i hi) hK (fun b hb e => ?_), k3, k4, k5⟩
    · rcases e with e | e
      · have := k5 b hb; omega
      · exact rows_apart h.wants k1 (by decide) e hb
    · rcases e with e | e
      · have hA : (A i).map Addr.block = some b := by
          cases hA : A i with
          | none => rw [hA] at hb; simp [Value.ownBlock] at hb
          | some x => rw [hA] at hb; simpa [Value.ownBlock] using hb
        have := k4 i b hi hA
        omega
      · exact rows_apart h.wants (k2 i hi) (by decide) e hb
  · intro e
    exact rowW_far hW (by simp) hX.1.1 ob e rfl
set_option maxRecDepth 100000 in
set_option maxHeartbeats 12800000 in
theorem specAskLayer_go (wa : Option Addr) (wk : Nat) (W : List Wn) (fa : Option Addr) (fc : Nat) (F : List Int) (ca : Option Addr) (cc n : Nat) (D : Nat → Int) (P : Nat → List Int) (la : Option Addr) (lc : Nat) (es : List En) (w : World) (RR : Ending → World → Prop) (h : RdF w wa W fa F ca D P n) (hL : RdE w la es) (hel : es.length ≤ 512) (hsc : ∀ e ∈ es, e.chunks.length ≤ 1024) (hes : SmallE es) (hn : n ≤ 1048576) (hP : SmallP P n) (hWl : W.length ≤ 1048576) (hFl : F.length ≤ 1048576) (hfc : F.length ≤ fc) (hz : fetFault W F D P n = 0) (hPl : ∀ i, i < n → 0 < (P i).length ∧ (P i).length ≤ 1048576) (hq : layFault es = 0) (hdl : (onceZ (allCh es)).length ≤ 1048576)
    (hy : (askW F (keysC D n) W (onceZ (allCh es))).2 = true → ∀ r w', ResF 0 (askW F (keysC D n) W (onceZ (allCh es))).1 F D P n w r w' → RR r w') (hno : (askW F (keysC D n) W (onceZ (allCh es))).2 = false → ∀ r w', ResF 2 [] [] D P 0 w r w' → RR r w') :
    Calls Tryz.prog 7 #[fetV wa W.length wk fa F.length fc ca n cc, .slice la es.length lc] w RR := by
  have B0 := hide (below_next (below_alloc w (.cells #[.slice wa W.length wk, .slice fa F.length fc, .slice ca n cc] 28)) (below_alloc _ (.cells #[.int .i64 0, .slice none 0 0, .slice none 0 0, .slice none 0 0] 33)))
  have X0 := hide ((Bx3.new w (.slice wa W.length wk) (.slice fa F.length fc) (.slice ca n cc) 28).below (below_alloc _ (.cells #[.int .i64 0, .slice none 0 0, .slice none 0 0, .slice none 0 0] 33)))
  have R0 := hide (Bx4.new (w.alloc (.cells #[.slice wa W.length wk, .slice fa F.length fc, .slice ca n cc] 28)) (.int .i64 0) (.slice none 0 0) (.slice none 0 0) (.slice none 0 0) 33)
  have hs : (w.alloc (.cells #[.slice wa W.length wk, .slice fa F.length fc, .slice ca n cc] 28)).heap.size = w.heap.size + 1 := by simp
  rw [hs] at R0
  clear hs
  have HFF := hide (l10Fault_any w.heap.size wa wk W fa fc F ca cc n D P _ X0.out (h.below B0.out) hn hP hWl hFl hfc)
  rw [hz] at HFF
  have HLF := hide (fun (u : World) (hu : Below w.heap.size w u) => l4Fault_any la lc es.length es u (hL.below hu) rfl (by omega) hes)
  rw [hq] at HLF
  have HCH := hide (fun (u : World) (hu : Below w.heap.size w u) => l4Chunks_any la lc es.length es u (hL.below hu) rfl hel hsc)
  have HCP := hide (fun (u : World) (hb : Below w.heap.size w u) => l10Copy_any wa wk W fa fc F ca cc n D P u (h.below hb) hn hPl hWl hFl)
  generalize onceZ (allCh es) = ds at *
  obtain ⟨K, hK⟩ : ∃ K, K = keysC D n := ⟨_, rfl⟩
  rw [← hK] at hy hno
  have HK := hide hK
  have HY := hide hy
  have HNO := hide hno
  clear h hL hsc hP hz hq hy hno hK
  unfold fetV at HCP ⊢
  go_enter Tryz.func7, Tryz.ntmps7
  go_wp2_with fail
  generalize (w.alloc (.cells #[.slice wa W.length wk, .slice fa F.length fc, .slice ca n cc] 28)).alloc (.cells #[.int .i64 0, .slice none 0 0, .slice none 0 0, .slice none 0 0] 33) = W0 at *
  refine HFF.out.mono ?_
  rintro e w1 ⟨rfl, hb1⟩
  have B1 := hide (below_next B0.out hb1)
  have X1 := hide (X0.out.below hb1)
  have R1 := hide (R0.out.below hb1)
  clear hb1 X0 R0 B0 HFF
  go_wp2_with fail
  refine (HLF.out w1 B1.out).mono ?_
  rintro e w1b ⟨rfl, hb1⟩
  have B1b := hide (below_next B1.out hb1)
  have X1b := hide (X1.out.below hb1)
  have R1b := hide (R1.out.below hb1)
  clear hb1 X1 R1 B1 HLF
  obtain ⟨⟨t0, t1, t2⟩, -, -, -⟩ := X1b.out
  go_wp2_with fail
  clear t0 t1 t2
  refine (HCP.out w1b B1b.out).mono ?_
  rintro e w2 ⟨xa, xc, ya, yc, za, zc, T, rfl, hW2, hF2, hG2, hT2, hxT, hyT, hb2⟩
  have hzw := B1b.out.size
  have hz2 := hb2.size
  have hr1 := R1b.out.lt
  have A2 := hide (below_alloc w2 (.cells #[.slice xa W.length xc, .slice ya F.length yc, .slice za n zc] 28))
  have B2 := hide (below_next (below_next B1b.out hb2) A2.out)
  have R2 := hide ((R1b.out.below hb2).below A2.out)
  have M2 : Hid (AtM w1b.heap.size w2.heap.size T w2.heap.size (w2.alloc (.cells #[.slice xa W.length xc, .slice ya F.length yc, .slice za n zc] 28)) xa xc W ya yc F za zc n D P) := hide ⟨Bx3.new w2 _ _ _ _, hW2.below A2.out, ownsRow_below hF2 A2.out, hG2.below A2.out, fun e => by have := (World.ownsRow.lt hW2 _ e).2; omega, fun b hb => (hF2.lt b hb).2, Nat.le_refl _, by omega⟩
  have HZ2 : Hid ((w2.alloc (.cells #[.slice xa W.length xc, .slice ya F.length yc, .slice za n zc] 28)).heap.size = w2.heap.size + 1) := hide (by simp)
  clear hb2 hW2 hF2 hG2 R1b HCP X1b hxT hyT A2
  go_wp2_with fail
  generalize w2.alloc (.cells #[.slice xa W.length xc, .slice ya F.length yc, .slice za n zc] 28) = W2 at *
  refine (HCH.out W2 B2.out).mono ?_
  rintro e w3 ⟨v3, rfl, hO3, hb3⟩
  obtain ⟨av, cv, rfl⟩ := ownsRow_shape hO3
  have O3 := hide hO3
  have M3 := hide (M2.out.below hb3)
  have B3 := hide (below_next B2.out hb3)
  have R3 := hide (R2.out.below hb3)
  have hz3 := hb3.size
  have hzz := HZ2.out
  clear hO3 hb3 M2 R2 HCH B2 HZ2
  obtain ⟨⟨s0, s1, s2⟩, -, -, -⟩ := M3.out.box
  go_wp2_with fail
  clear s0 s1 s2
  go_loopw [9] (fun i wr => ∃ (k : Nat) (W' : List Wn) (ua : Option Addr) (uc : Nat), k ≤ ds.length ∧ i = .int .i64 k ∧ W'.length ≤ 1048576 ∧ Hid (AtM w1b.heap.size w2.heap.size T w2.heap.size wr ua uc W' ya yc F za zc n D P) ∧ Hid (wr.ownsRow W2.heap.size 2 1 (.slice av ds.length cv) ds.length (ds.map (Value.int .i64))) ∧ Hid (Bx4 wr (w.heap.size + 1) (.int .i64 0) (.slice none 0 0) (.slice none 0 0) (.slice none 0 0)) ∧ Hid (Below w.heap.size w wr) ∧ Hid (askW F K W ds = askW F K W' (ds.drop k))) (fun i _ => ds.length - (intOf i).toNat)
  case atStart => exact ⟨0, W, xa, xc, Nat.zero_le _, rfl, hWl, M3, O3, R3, B3, hide (by simp)⟩
  case round =>
    obtain ⟨k, W', ua, uc, hk, rfl, hW', MW, OW, RW, BW, EQ⟩ := hrel
    by_cases hlt : k < ds.length
    · obtain ⟨b1, o1, rfl, hb1, hc1⟩ := (ownsRow_own OW.out rfl).reads (by intro e; simp [e] at hlt)
      obtain ⟨d, hd⟩ : ∃ d, d = ds.getD k 0 := ⟨_, rfl⟩
      have c1 := hc1 k hlt
      rw [← hd] at c1
      have hlt' : (k : Int) < (ds.length : Int) := by omega
      have ST := hide (askW_step (F := F) (K := K) (W := W') hlt)
      rw [← hd] at ST
      have HAm := hide (l2Among_any ya yc F d _ MW.out.rd.failed hFl)
      have HAd := hide (l2Among_any ya yc F d _ (MW.out.below (Below.refl _ _).drew).rd.failed hFl)
      obtain ⟨⟨s0, s1, s2⟩, -, -, -⟩ := MW.out.box
      have MD := hide (MW.out.below (Below.refl _ _).drew)
      have OD := hide (ownsRow_below OW.out (Below.refl _ _).drew)
      have RD := hide (RW.out.below (Below.refl _ _).drew)
      have BD := hide BW.out.drew
      clear hc1 hd
      by_cases hf : d ∈ F
      · rw [List.contains_iff_mem.2 hf] at HAm HAd
        have EQ2 : Hid (askW F K W ds = askW F K W' (ds.drop (k + 1))) := hide (EQ.out.trans (ST.out.trans (if_pos hf)))
        clear hf ST EQ
        go_wp2_with fail
        go_region_law ((go_simp; go_wp2_with (go_at_call 23; refine HAd.out.mono ?_; rintro r w4 ⟨rfl, rfl⟩)))
        all_goals
          go_wp2_with fail
          exact ⟨⟨k + 1, W', ua, uc, hlt, by simp, hW', MD, OD, RD, BD, EQ2⟩, by simp [intOf]; omega⟩
      · rw [show F.contains d = false from by simpa using hf] at HAm HAd
        by_cases hkn : d ∈ K ∨ d ∈ W'.map Prod.fst
        · have CA := hide (fun (u : World) (hu : AtM w1b.heap.size w2.heap.size T w2.heap.size u ua uc W' ya yc F za zc n D P) => askM_known hu d hn hW' hFl hf (by rw [← HK.out]; exact hkn))
          have EQ2 : Hid (askW F K W ds = askW F K W' (ds.drop (k + 1))) := hide (EQ.out.trans (ST.out.trans ((if_neg hf).trans (if_pos hkn))))
          clear hf hkn ST EQ
          go_wp2_with fail
          go_region_law ((go_simp; go_wp2_with (go_at_call 23; refine HAd.out.mono ?_; rintro r w4 ⟨rfl, rfl⟩)))
          all_goals
            go_wp2_with fail
            refine (CA.out _ MD.out).mono ?_
            rintro e w5 ⟨rfl, rfl⟩
            go_wp2_with fail
            exact ⟨⟨k + 1, W', ua, uc, hlt, by simp, hW', MD, OD, RD, BD, EQ2⟩, by simp [intOf]; omega⟩
        · by_cases hfull : 12 ≤ W'.length
          · have CA := hide (fun (u : World) (hu : AtM w1b.heap.size w2.heap.size T w2.heap.size u ua uc W' ya yc F za zc n D P) => askM_many hu d hn hW' hFl hf (by rw [← HK.out]; exact hkn) hfull)
            have EQ2 : Hid (askW F K W ds = (W', false)) := hide (EQ.out.trans (ST.out.trans ((if_neg hf).trans ((if_neg hkn).trans (if_pos hfull)))))
            clear hf hkn hfull ST EQ
            go_wp2_with fail
            go_region_law ((go_simp; go_wp2_with (go_at_call 23; refine HAd.out.mono ?_; rintro r w4 ⟨rfl, rfl⟩)))
            all_goals
              go_wp2_with fail
              refine (CA.out _ MD.out).mono ?_
              rintro e w5 ⟨rfl, rfl⟩
              go_wp2_with fail
              refine (l10Bad_any 2 _).mono ?_
              rintro e w6 ⟨rfl, hb6⟩
              have B6 := hide (below_next BD.out hb6)
              obtain ⟨⟨m0, m1, m2, m3⟩, k0, k1, k2, k3⟩ := RD.out.below hb6
              clear hb6
              go_wp2_with fail
              have hk6 := Kept.fourF w6 (w.heap.size + 1) (.int .i64 2) (.slice none 0 0) (.slice none 0 0) (.slice none 0 0)
              exact bodyPost_ret (v := .agg #[.int .i64 2, .slice none 0 0, .slice none 0 0, .slice none 0 0]) (by simp [results, Tryz.results7, go_sem, m0, m1, m2, m3]) rfl (HNO.out (by rw [EQ2.out]) _ _ (ResF.bad (B6.out.trans (hk6.below (B := w.heap.size) B6.out.size (fun k hk e => by omega)))))
          · have CA := hide (fun (u : World) (hu : AtM w1b.heap.size w2.heap.size T w2.heap.size u ua uc W' ya yc F za zc n D P) => askM_new hu d hn hW' hFl hf (by rw [← HK.out]; exact hkn) hfull)
            have EQ2 : Hid (askW F K W ds = askW F K (W' ++ [(d, 0)]) (ds.drop (k + 1))) := hide (EQ.out.trans (ST.out.trans ((if_neg hf).trans ((if_neg hkn).trans (if_neg hfull)))))
            have hW2 : Hid ((W' ++ [(d, (0 : Int))]).length ≤ 1048576) := hide (by simp; omega)
            clear hf hkn hfull ST EQ
            go_wp2_with fail
            go_region_law ((go_simp; go_wp2_with (go_at_call 23; refine HAd.out.mono ?_; rintro r w4 ⟨rfl, rfl⟩)))
            all_goals
              go_wp2_with fail
              refine (CA.out _ MD.out).mono ?_
              rintro e w5 ⟨rfl, ⟨ya2, yc2, hM5⟩, hK5⟩
              have M5 := hide hM5
              have O5 := hide (ownsRow_kept OD.out hK5 (fun b hb e => by rcases e with e | e; (have := (OD.out.lt b hb).1; omega); exact rows_apart MD.out.wants OD.out (by decide) e hb))
              have R5 := hide (RD.out.kept hK5 (fun e => by rcases e with e | e; omega; (have := (World.ownsRow.lt MD.out.wants _ e).1; omega)))
              have B5 := hide (BD.out.trans (hK5.below (B := w.heap.size) BD.out.size (fun k hk e => by rcases e with e | e; omega; (have := (World.ownsRow.lt MD.out.wants k e).1; omega))))
              clear hM5 hK5
              go_wp2_with fail
              exact ⟨⟨k + 1, W' ++ [(d, 0)], ya2, yc2, hlt, by simp, hW2.out, M5, O5, R5, B5, EQ2⟩, by simp [intOf]; omega⟩
    · obtain rfl : k = ds.length := by omega
      have EQ2 : Hid (askW F K W ds = (W', true)) := hide (EQ.out.trans (by rw [List.drop_length]; rfl))
      clear EQ
      obtain ⟨⟨s0, s1, s2⟩, -, -, -⟩ := MW.out.box
      obtain ⟨⟨m0, m1, m2, m3⟩, k0, k1, k2, k3⟩ := RW.out
      go_wp2_with fail
      exact bodyPost_ret (v := .agg #[.int .i64 0, .slice ua W'.length uc, .slice ya F.length yc, .slice za n zc]) (by simp [results, Tryz.results7, go_sem, m0, m1, m2, m3]) rfl (HY.out (by rw [EQ2.out]) _ _ (by rw [EQ2.out]; exact ResF.box (B := w1b.heap.size) (b := w.heap.size + 1) MW.out.wants MW.out.failed ((MW.out.chunks.mono hT2).wide (by have := MW.out.box.lt; omega)) BW.out (by omega) (by omega)))
end Go.Proofs.YtejfcapocikjmaaGreatDoor

namespace Go.Proofs.YtejfcapocikjmaaGreatDoor
open Go.RowKit Go.Maps
set_option linter.unusedVariables false
set_option maxRecDepth 100000 in
set_option maxHeartbeats 3200000 in
theorem specAskLayer_bad (wa : Option Addr) (wk : Nat) (W : List Wn) (fa : Option Addr) (fc : Nat) (F : List Int) (ca : Option Addr) (cc n : Nat) (D : Nat → Int) (P : Nat → List Int) (la : Option Addr) (lc ln : Nat) (w : World) (h : RdF w wa W fa F ca D P n) (hn : n ≤ 1048576) (hP : SmallP P n) (hWl : W.length ≤ 1048576) (hFl : F.length ≤ 1048576) (hfc : F.length ≤ fc) (hz : fetFault W F D P n ≠ 0) :
    Calls Tryz.prog 7 #[fetV wa W.length wk fa F.length fc ca n cc, .slice la ln lc] w (ResF (fetFault W F D P n) [] [] D P 0 w) := by
  have B0 := hide (below_next (below_alloc w (.cells #[.slice wa W.length wk, .slice fa F.length fc, .slice ca n cc] 28)) (below_alloc _ (.cells #[.int .i64 0, .slice none 0 0, .slice none 0 0, .slice none 0 0] 33)))
  have X0 := hide ((Bx3.new w (.slice wa W.length wk) (.slice fa F.length fc) (.slice ca n cc) 28).below (below_alloc _ (.cells #[.int .i64 0, .slice none 0 0, .slice none 0 0, .slice none 0 0] 33)))
  have R0 := hide (Bx4.new (w.alloc (.cells #[.slice wa W.length wk, .slice fa F.length fc, .slice ca n cc] 28)) (.int .i64 0) (.slice none 0 0) (.slice none 0 0) (.slice none 0 0) 33)
  have hs : (w.alloc (.cells #[.slice wa W.length wk, .slice fa F.length fc, .slice ca n cc] 28)).heap.size = w.heap.size + 1 := by simp
  rw [hs] at R0
  clear hs
  have HFF := hide (l10Fault_any w.heap.size wa wk W fa fc F ca cc n D P _ X0.out (h.below B0.out) hn hP hWl hFl hfc)
  clear h hP
  unfold fetV
  have hz1 : (fetFault W F D P n != 0) = true := by simpa using hz
  generalize fetFault W F D P n = A at *
  clear hz
  go_enter Tryz.func7, Tryz.ntmps7
  go_wp2_with fail
  generalize (w.alloc (.cells #[.slice wa W.length wk, .slice fa F.length fc, .slice ca n cc] 28)).alloc (.cells #[.int .i64 0, .slice none 0 0, .slice none 0 0, .slice none 0 0] 33) = W0 at *
  refine HFF.out.mono ?_
  rintro e w1 ⟨rfl, hb1⟩
  have B1 := hide (below_next B0.out hb1)
  have X1 := hide (X0.out.below hb1)
  have R1 := hide (R0.out.below hb1)
  clear hb1 X0 R0 B0 HFF
  go_wp2_with fail
  refine (l10Bad_any A w1).mono ?_
  rintro e w9 ⟨rfl, hb9⟩
  have B9 := hide (below_next B1.out hb9)
  obtain ⟨⟨m0, m1, m2, m3⟩, k0, k1, k2, k3⟩ := R1.out.below hb9
  clear hb9
  go_wp2_with fail
  have hk := Kept.fourF w9 (w.heap.size + 1) (.int .i64 A) (.slice none 0 0) (.slice none 0 0) (.slice none 0 0)
  exact bodyPost_ret (v := .agg #[.int .i64 A, .slice none 0 0, .slice none 0 0, .slice none 0 0]) (by simp [results, Tryz.results7, go_sem, m0, m1, m2, m3]) rfl (ResF.bad (B9.out.trans (hk.below (B := w.heap.size) B9.out.size (fun k hk e => by omega))))
set_option maxRecDepth 100000 in
set_option maxHeartbeats 3200000 in
theorem specAskLayer_lay (wa : Option Addr) (wk : Nat) (W : List Wn) (fa : Option Addr) (fc : Nat) (F : List Int) (ca : Option Addr) (cc n : Nat) (D : Nat → Int) (P : Nat → List Int) (la : Option Addr) (lc : Nat) (es : List En) (w : World) (h : RdF w wa W fa F ca D P n) (hL : RdE w la es) (hel : es.length ≤ 1048576) (hes : SmallE es) (hn : n ≤ 1048576) (hP : SmallP P n) (hWl : W.length ≤ 1048576) (hFl : F.length ≤ 1048576) (hfc : F.length ≤ fc) (hz : fetFault W F D P n = 0) (hq : layFault es ≠ 0) :
    Calls Tryz.prog 7 #[fetV wa W.length wk fa F.length fc ca n cc, .slice la es.length lc] w (ResF (layFault es) [] [] D P 0 w) := by
  have B0 := hide (below_next (below_alloc w (.cells #[.slice wa W.length wk, .slice fa F.length fc, .slice ca n cc] 28)) (below_alloc _ (.cells #[.int .i64 0, .slice none 0 0, .slice none 0 0, .slice none 0 0] 33)))
  have X0 := hide ((Bx3.new w (.slice wa W.length wk) (.slice fa F.length fc) (.slice ca n cc) 28).below (below_alloc _ (.cells #[.int .i64 0, .slice none 0 0, .slice none 0 0, .slice none 0 0] 33)))
  have R0 := hide (Bx4.new (w.alloc (.cells #[.slice wa W.length wk, .slice fa F.length fc, .slice ca n cc] 28)) (.int .i64 0) (.slice none 0 0) (.slice none 0 0) (.slice none 0 0) 33)
  have hs : (w.alloc (.cells #[.slice wa W.length wk, .slice fa F.length fc, .slice ca n cc] 28)).heap.size = w.heap.size + 1 := by simp
  rw [hs] at R0
  clear hs
  have HFF := hide (l10Fault_any w.heap.size wa wk W fa fc F ca cc n D P _ X0.out (h.below B0.out) hn hP hWl hFl hfc)
  rw [hz] at HFF
  have HLF := hide (fun (u : World) (hu : Below w.heap.size w u) => l4Fault_any la lc es.length es u (hL.below hu) rfl hel hes)
  have hz1 : (layFault es != 0) = true := by simpa using hq
  generalize layFault es = A at *
  clear h hP hz hq hL
  unfold fetV
  go_enter Tryz.func7, Tryz.ntmps7
  go_wp2_with fail
  generalize (w.alloc (.cells #[.slice wa W.length wk, .slice fa F.length fc, .slice ca n cc] 28)).alloc (.cells #[.int .i64 0, .slice none 0 0, .slice none 0 0, .slice none 0 0] 33) = W0 at *
  refine HFF.out.mono ?_
  rintro e w1 ⟨rfl, hb1⟩
  have B1 := hide (below_next B0.out hb1)
  have R1 := hide (R0.out.below hb1)
  clear hb1 X0 R0 B0 HFF
  go_wp2_with fail
  refine (HLF.out w1 B1.out).mono ?_
  rintro e w2 ⟨rfl, hb1⟩
  have B2 := hide (below_next B1.out hb1)
  have R2 := hide (R1.out.below hb1)
  clear hb1 R1 B1 HLF
  go_wp2_with fail
  refine (l10Bad_any A w2).mono ?_
  rintro e w3 ⟨rfl, hb3⟩
  have B3 := hide (below_next B2.out hb3)
  have R3 := hide (R2.out.below hb3)
  clear hb3
  obtain ⟨⟨m0, m1, m2, m3⟩, k0, k1, k2, k3⟩ := R3.out
  go_wp2_with fail
  have hk := Kept.fourF w3 (w.heap.size + 1) (.int .i64 A) (.slice none 0 0) (.slice none 0 0) (.slice none 0 0)
  exact bodyPost_ret (v := .agg #[.int .i64 A, .slice none 0 0, .slice none 0 0, .slice none 0 0]) (by simp [results, Tryz.results7, go_sem, m0, m1, m2, m3]) rfl (ResF.bad (B3.out.trans (hk.below (B := w.heap.size) B3.out.size (fun k hk e => by omega))))
end Go.Proofs.YtejfcapocikjmaaGreatDoor

namespace Go.Proofs.YtejfcapocikjmaaGreatDoor
open Go.RowKit Go.Maps
set_option linter.unusedVariables false

theorem row_far {w : World} {B b n : Nat} {v : Value} {zs : List Int} {a : Option Addr} {m c : Nat} (h : w.ownsRow B 2 1 v n (zs.map (Value.int .i64))) (hn : 0 < n) (hz : n = zs.length) (hb : w.cell? ⟨b, 0, none⟩ = some (.slice a m c)) : ∀ x, v.ownBlock = some x → x ≠ b := by
  rintro x hx rfl
  rcases h.2 with ⟨h', hh⟩ | ⟨g, cap, cur, rfl, hg, hgg, _⟩
  · omega
  · simp only [Value.ownBlock, Option.some.injEq] at hx
    subst hx
    have h1 := World.ownsRow.cellAt h 0 (by omega)
    rw [hb] at h1
    have hl : 0 < zs.length := by omega
    simp [List.getElem?_eq_getElem hl] at h1
end Go.Proofs.YtejfcapocikjmaaGreatDoor

namespace Go.Proofs.YtejfcapocikjmaaGreatDoor
open Go.RowKit Go.Maps
set_option linter.unusedVariables false
set_option maxRecDepth 100000 in
set_option maxHeartbeats 6400000 in
theorem specLoseFetch_more (wa : Option Addr) (wk : Nat) (W : List Wn) (fa : Option Addr) (fc : Nat) (F : List Int) (ca : Option Addr) (cc n : Nat) (D : Nat → Int) (P : Nat → List Int) (d : Int) (w : World) (h : RdF w wa W fa F ca D P n) (hn : n ≤ 1048576) (hP : SmallP P n) (hWl : W.length ≤ 1048576) (hFl : F.length ≤ 1048576) (hfc : F.length ≤ fc) (hz : fetFault W F D P n = 0) (hPl : ∀ i, i < n → 0 < (P i).length ∧ (P i).length ≤ 1048576) (i : Nat) (t : Int) (hi : i < W.length) (hdi : W.getD i (0, 0) = (d, t)) (hfi : ∀ j, j < i → (W.getD j (0, 0)).1 ≠ d) (h0 : 0 ≤ t) (h3 : t + 1 < 3) :
    Calls Tryz.prog 60 #[fetV wa W.length wk fa F.length fc ca n cc, .int .i64 d] w (ResF 0 (W.set i (d, t + 1)) F D P n w) := by
  have B0 := hide (below_next (below_alloc w (.cells #[.slice wa W.length wk, .slice fa F.length fc, .slice ca n cc] 28)) (below_alloc _ (.cells #[.int .i64 0, .slice none 0 0, .slice none 0 0, .slice none 0 0] 33)))
  have X0 := hide ((Bx3.new w (.slice wa W.length wk) (.slice fa F.length fc) (.slice ca n cc) 28).below (below_alloc _ (.cells #[.int .i64 0, .slice none 0 0, .slice none 0 0, .slice none 0 0] 33)))
  have R0 := hide (Bx4.new (w.alloc (.cells #[.slice wa W.length wk, .slice fa F.length fc, .slice ca n cc] 28)) (.int .i64 0) (.slice none 0 0) (.slice none 0 0) (.slice none 0 0) 33)
  have hs : (w.alloc (.cells #[.slice wa W.length wk, .slice fa F.length fc, .slice ca n cc] 28)).heap.size = w.heap.size + 1 := by simp
  rw [hs] at R0
  clear hs
  have HFF := hide (l10Fault_any w.heap.size wa wk W fa fc F ca cc n D P _ X0.out (h.below B0.out) hn hP hWl hFl hfc)
  rw [hz] at HFF
  have HAT := hide (fun (u : World) (hb : Below w.heap.size w u) (hX : Bx3 u w.heap.size (.slice wa W.length wk) (.slice fa F.length fc) (.slice ca n cc)) => l10At_yes w.heap.size wa wk i W d u hX.1.1 (h.wants.below hb) hWl hi (by rw [hdi]) hfi)
  have HCP := hide (fun (u : World) (hb : Below w.heap.size w u) => l10Copy_any wa wk W fa fc F ca cc n D P u (h.below hb) hn hPl hWl hFl)
  have HDI := hide hdi
  have hi9 : ¬ (i : Int) < 0 := by omega
  clear h hP hz hdi hfi
  unfold fetV at HCP ⊢
  go_enter Tryz.func60, Tryz.ntmps60
  go_wp2_with fail
  generalize (w.alloc (.cells #[.slice wa W.length wk, .slice fa F.length fc, .slice ca n cc] 28)).alloc (.cells #[.int .i64 0, .slice none 0 0, .slice none 0 0, .slice none 0 0] 33) = W0 at *
  refine HFF.out.mono ?_
  rintro e w1 ⟨rfl, hb1⟩
  have B1 := hide (below_next B0.out hb1)
  have X1 := hide (X0.out.below hb1)
  have R1 := hide (R0.out.below hb1)
  clear hb1 X0 R0 B0 HFF
  go_wp2_with fail
  refine (HAT.out w1 B1.out X1.out).mono ?_
  rintro e w1 ⟨rfl, rfl⟩
  obtain ⟨⟨t0, t1, t2⟩, -, -, -⟩ := X1.out
  go_wp2_with fail
  clear t0 t1 t2
  refine (HCP.out w1 B1.out).mono ?_
  rintro e w2 ⟨xa, xc, ya, yc, za, zc, T, rfl, hW2, hF2, hG2, hT2, hxT, hyT, hb2⟩
  have hzw := B1.out.size
  have hz2 := hb2.size
  have hr1 := R1.out.lt
  have B2 := hide (below_next (below_next B1.out hb2) (below_alloc w2 (.cells #[.slice xa W.length xc, .slice ya F.length yc, .slice za n zc] 28)))
  have A2 := hide (below_alloc w2 (.cells #[.slice xa W.length xc, .slice ya F.length yc, .slice za n zc] 28))
  have N2 := hide (Bx3.new w2 (.slice xa W.length xc) (.slice ya F.length yc) (.slice za n zc) 28)
  have R2 := hide ((R1.out.below hb2).below A2.out)
  have W2 := hide (hW2.below A2.out)
  have F2 := hide (ownsRow_below hF2 A2.out)
  have G2 := hide (hG2.below A2.out)
  have D2 : Hid (RdF (w2.alloc (.cells #[.slice xa W.length xc, .slice ya F.length yc, .slice za n zc] 28)) xa W ya F za D P n) := hide ⟨(hW2.below A2.out).rd, reads_owned (ownsRow_below hF2 A2.out) rfl, (hG2.rd).below A2.out⟩
  have hyl : ∀ b, (Value.slice ya F.length yc).ownBlock = some b → b < w2.heap.size := fun b hb => (hF2.lt b hb).2
  have hxl : ∀ b, (Value.slice xa W.length xc).ownBlock = some b → b < w2.heap.size := fun b hb => (World.ownsRow.lt hW2 b hb).2
  have hsz3 : (w2.alloc (.cells #[.slice xa W.length xc, .slice ya F.length yc, .slice za n zc] 28)).heap.size = w2.heap.size + 1 := by simp
  have HYX := hide (And.intro hyl (And.intro hxl (And.intro hxT hsz3)))
  clear hb2 hW2 hF2 hG2 R1 HCP HAT X1 hyl hxl hxT hyT hsz3
  have HAS := hide (l10Lose_more w1.heap.size w2.heap.size i xa xc W _ _ d t _ N2.out W2.out (fun e => by have := HYX.out.2.1 _ e; omega) hWl hi HDI.out h0 h3)
  have hln : (W.set i (d, t + 1)).length = W.length := by simp
  go_wp2_with fail
  generalize w2.alloc (.cells #[.slice xa W.length xc, .slice ya F.length yc, .slice za n zc] 28) = w3 at *
  refine HAS.out.mono ?_
  rintro e w4 ⟨rfl, hW4, hK4⟩
  have hz4 := hK4.size
  have F4 := hide (ownsRow_kept F2.out hK4 (fun b hb e => rows_apart W2.out F2.out (by decide) e hb))
  have G4 := hide (G2.out.kept hK4 (fun b h1 h2 e => by have := HYX.out.2.2.1 b e; omega))
  have B4 := hide (B2.out.trans (hK4.below (B := w.heap.size) B2.out.size (fun k hk e => by have := (World.ownsRow.lt W2.out k e).1; omega)))
  have R4 := hide (R2.out.kept hK4 (fun e => by have := (World.ownsRow.lt W2.out _ e).1; omega))
  have N4 := hide (N2.out.kept hK4 (fun e => by have := HYX.out.2.1 _ e; omega))
  rw [← hln] at hW4
  have W4 := hide hW4
  obtain ⟨⟨s0, s1, s2⟩, -, -, -⟩ := N4.out
  obtain ⟨⟨m0, m1, m2, m3⟩, k0, k1, k2, k3⟩ := R4.out
  clear hW4 hK4
  go_wp2_with fail
  rw [← hln]
  exact bodyPost_ret (v := .agg #[.int .i64 0, .slice xa (W.set i (d, t + 1)).length xc, .slice ya F.length yc, .slice za n zc]) (by simp [results, Tryz.results60, go_sem, m0, m1, m2, m3]) rfl (ResF.box (B := w1.heap.size) W4.out F4.out ((G4.out.mono hT2).wide (by have := HYX.out.2.2.2; omega)) B4.out (by omega) (by omega))
set_option maxRecDepth 100000 in
set_option maxHeartbeats 6400000 in
theorem specLoseFetch_full (wa : Option Addr) (wk : Nat) (W : List Wn) (fa : Option Addr) (fc : Nat) (F : List Int) (ca : Option Addr) (cc n : Nat) (D : Nat → Int) (P : Nat → List Int) (d : Int) (w : World) (h : RdF w wa W fa F ca D P n) (hn : n ≤ 1048576) (hP : SmallP P n) (hWl : W.length ≤ 1048576) (hFl : F.length ≤ 1048576) (hfc : F.length ≤ fc) (hz : fetFault W F D P n = 0) (hPl : ∀ i, i < n → 0 < (P i).length ∧ (P i).length ≤ 1048576) (i : Nat) (t : Int) (hi : i < W.length) (hdi : W.getD i (0, 0) = (d, t)) (hfi : ∀ j, j < i → (W.getD j (0, 0)).1 ≠ d) (h0 : 0 ≤ t) (h9 : t ≤ 9) (h3 : ¬ t + 1 < 3) (h40 : 40 ≤ F.length) :
    Calls Tryz.prog 60 #[fetV wa W.length wk fa F.length fc ca n cc, .int .i64 d] w (ResF 2 [] [] D P 0 w) := by
  have B0 := hide (below_next (below_alloc w (.cells #[.slice wa W.length wk, .slice fa F.length fc, .slice ca n cc] 28)) (below_alloc _ (.cells #[.int .i64 0, .slice none 0 0, .slice none 0 0, .slice none 0 0] 33)))
  have X0 := hide ((Bx3.new w (.slice wa W.length wk) (.slice fa F.length fc) (.slice ca n cc) 28).below (below_alloc _ (.cells #[.int .i64 0, .slice none 0 0, .slice none 0 0, .slice none 0 0] 33)))
  have R0 := hide (Bx4.new (w.alloc (.cells #[.slice wa W.length wk, .slice fa F.length fc, .slice ca n cc] 28)) (.int .i64 0) (.slice none 0 0) (.slice none 0 0) (.slice none 0 0) 33)
  have hs : (w.alloc (.cells #[.slice wa W.length wk, .slice fa F.length fc, .slice ca n cc] 28)).heap.size = w.heap.size + 1 := by simp
  rw [hs] at R0
  clear hs
  have HFF := hide (l10Fault_any w.heap.size wa wk W fa fc F ca cc n D P _ X0.out (h.below B0.out) hn hP hWl hFl hfc)
  rw [hz] at HFF
  have HAT := hide (fun (u : World) (hb : Below w.heap.size w u) (hX : Bx3 u w.heap.size (.slice wa W.length wk) (.slice fa F.length fc) (.slice ca n cc)) => l10At_yes w.heap.size wa wk i W d u hX.1.1 (h.wants.below hb) hWl hi (by rw [hdi]) hfi)
  have HCP := hide (fun (u : World) (hb : Below w.heap.size w u) => l10Copy_any wa wk W fa fc F ca cc n D P u (h.below hb) hn hPl hWl hFl)
  have HDI := hide hdi
  have hi9 : ¬ (i : Int) < 0 := by omega
  clear h hP hz hdi hfi
  unfold fetV at HCP ⊢
  go_enter Tryz.func60, Tryz.ntmps60
  go_wp2_with fail
  generalize (w.alloc (.cells #[.slice wa W.length wk, .slice fa F.length fc, .slice ca n cc] 28)).alloc (.cells #[.int .i64 0, .slice none 0 0, .slice none 0 0, .slice none 0 0] 33) = W0 at *
  refine HFF.out.mono ?_
  rintro e w1 ⟨rfl, hb1⟩
  have B1 := hide (below_next B0.out hb1)
  have X1 := hide (X0.out.below hb1)
  have R1 := hide (R0.out.below hb1)
  clear hb1 X0 R0 B0 HFF
  go_wp2_with fail
  refine (HAT.out w1 B1.out X1.out).mono ?_
  rintro e w1 ⟨rfl, rfl⟩
  obtain ⟨⟨t0, t1, t2⟩, -, -, -⟩ := X1.out
  go_wp2_with fail
  clear t0 t1 t2
  refine (HCP.out w1 B1.out).mono ?_
  rintro e w2 ⟨xa, xc, ya, yc, za, zc, T, rfl, hW2, hF2, hG2, hT2, hxT, hyT, hb2⟩
  have hzw := B1.out.size
  have hz2 := hb2.size
  have hr1 := R1.out.lt
  have B2 := hide (below_next (below_next B1.out hb2) (below_alloc w2 (.cells #[.slice xa W.length xc, .slice ya F.length yc, .slice za n zc] 28)))
  have A2 := hide (below_alloc w2 (.cells #[.slice xa W.length xc, .slice ya F.length yc, .slice za n zc] 28))
  have N2 := hide (Bx3.new w2 (.slice xa W.length xc) (.slice ya F.length yc) (.slice za n zc) 28)
  have R2 := hide ((R1.out.below hb2).below A2.out)
  have W2 := hide (hW2.below A2.out)
  have F2 := hide (ownsRow_below hF2 A2.out)
  have G2 := hide (hG2.below A2.out)
  have D2 : Hid (RdF (w2.alloc (.cells #[.slice xa W.length xc, .slice ya F.length yc, .slice za n zc] 28)) xa W ya F za D P n) := hide ⟨(hW2.below A2.out).rd, reads_owned (ownsRow_below hF2 A2.out) rfl, (hG2.rd).below A2.out⟩
  have hyl : ∀ b, (Value.slice ya F.length yc).ownBlock = some b → b < w2.heap.size := fun b hb => (hF2.lt b hb).2
  have hxl : ∀ b, (Value.slice xa W.length xc).ownBlock = some b → b < w2.heap.size := fun b hb => (World.ownsRow.lt hW2 b hb).2
  have hsz3 : (w2.alloc (.cells #[.slice xa W.length xc, .slice ya F.length yc, .slice za n zc] 28)).heap.size = w2.heap.size + 1 := by simp
  have HYX := hide (And.intro hyl (And.intro hxl (And.intro hxT hsz3)))
  clear hb2 hW2 hF2 hG2 R1 HCP HAT X1 hyl hxl hxT hyT hsz3
  have HAS := hide (l10Lose_full w1.heap.size w2.heap.size i xa xc W ya yc F.length _ d t _ N2.out W2.out (fun e => by have := HYX.out.2.1 _ e; omega) hWl hi HDI.out h0 h9 (by omega) h40)
  go_wp2_with fail
  generalize w2.alloc (.cells #[.slice xa W.length xc, .slice ya F.length yc, .slice za n zc] 28) = w3 at *
  refine HAS.out.mono ?_
  rintro e w4 ⟨rfl, hK4⟩
  have hz4 := hK4.size
  have B4 := hide (B2.out.trans (hK4.below (B := w.heap.size) B2.out.size (fun k hk e => by have := (World.ownsRow.lt W2.out k e).1; omega)))
  have R4 := hide (R2.out.kept hK4 (fun e => by have := (World.ownsRow.lt W2.out _ e).1; omega))
  clear hK4
  go_wp2_with fail
  refine (l10Bad_any 2 w4).mono ?_
  rintro e w9 ⟨rfl, hb9⟩
  have B9 := hide (below_next B4.out hb9)
  obtain ⟨⟨m0, m1, m2, m3⟩, k0, k1, k2, k3⟩ := R4.out.below hb9
  clear hb9
  go_wp2_with fail
  have hk := Kept.fourF w9 (w.heap.size + 1) (.int .i64 2) (.slice none 0 0) (.slice none 0 0) (.slice none 0 0)
  exact bodyPost_ret (v := .agg #[.int .i64 2, .slice none 0 0, .slice none 0 0, .slice none 0 0]) (by simp [results, Tryz.results60, go_sem, m0, m1, m2, m3]) rfl (ResF.bad (B9.out.trans (hk.below (B := w.heap.size) B9.out.size (fun k hk e => by omega))))
end Go.Proofs.YtejfcapocikjmaaGreatDoor

