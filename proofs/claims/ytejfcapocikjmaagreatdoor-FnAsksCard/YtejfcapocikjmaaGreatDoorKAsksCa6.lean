/-
  Texts put together: FetBa FetJ PathL Strs PathM PathS.
-/
import Derived.Test.YtejfcapocikjmaaGreatDoorKAsksCa5
import Derived.Lib.Bytealg
import Derived.Lib.Strings
import Derived.Test.YtejfcapocikjmaaGreatDoorKAsksCa1
namespace Go.Proofs.YtejfcapocikjmaaGreatDoor
open Go.RowKit Go.Maps
set_option linter.unusedVariables false

def askW (F K : List Int) : List Wn → List Int → List Wn × Bool
  | W, [] => (W, true)
  | W, d :: ds => if d ∈ F then askW F K W ds else if d ∈ K ∨ d ∈ W.map Prod.fst then askW F K W ds else if 12 ≤ W.length then (W, false) else askW F K (W ++ [(d, 0)]) ds
theorem askW_step {F K : List Int} {W : List Wn} {ds : List Int} {k : Nat} (hk : k < ds.length) : askW F K W (ds.drop k) = if ds.getD k 0 ∈ F then askW F K W (ds.drop (k + 1)) else if ds.getD k 0 ∈ K ∨ ds.getD k 0 ∈ W.map Prod.fst then askW F K W (ds.drop (k + 1)) else if 12 ≤ W.length then (W, false) else askW F K (W ++ [(ds.getD k 0, 0)]) (ds.drop (k + 1)) := by
  rw [List.drop_eq_getElem_cons hk, askW, show ds.getD k 0 = ds[k] by rw [List.getD_eq_getElem?_getD, List.getElem?_eq_getElem hk]; rfl]
set_option maxRecDepth 100000 in
set_option maxHeartbeats 6400000 in
theorem askAll_any (B fb : Nat) (W : List Wn) (F : List Int) (L : List Ch) (wa : Option Addr) (wk : Nat) (ps : List Nat) (fa : Option Addr) (fc bm N : Nat) (da : Option Addr) (dc : Nat) (ds : List Int) (v w : World) (a0 a1 : Addr) (hg : Ge v a0 a1) (hR : Reads .i64 v da ds) (hvb : Below v.heap.size v w) (hvf : v.heap.size ≤ fb) (h : NowF B fb w W F L wa wk ps fa fc bm N) (hB : B ≤ fb) (hWl : W.length ≤ 1048576) (hFl : F.length ≤ 1048576) (hdl : ds.length ≤ 1048576) (hok : ∀ d ∈ ds, okD d) :
    Calls Tryz.prog 17 #[.pointer (some ⟨fb, 0, none⟩), .slice da ds.length dc] w fun e w' => e = .returned (if (askW F (L.map Prod.fst) W ds).2 then .nilIface else .iface 221 (.pointer (some a1))) ∧ (∃ wa' wk' ps', NowF B fb w' (askW F (L.map Prod.fst) W ds).1 F L wa' wk' ps' fa fc bm N) ∧ Below fb w w' := by
  have HG := hide (fun (u : World) (hu : Below fb w u) => hg.below (hvb.trans (hu.mono hvf)))
  have HR := hide (fun (u : World) (hu : Below fb w u) => hR.below (hvb.trans (hu.mono hvf)))
  have HN := hide h
  have HO := hide hok
  obtain ⟨K, hK⟩ : ∃ K, K = L.map Prod.fst := ⟨_, rfl⟩
  rw [← hK]
  have HK := hide hK
  have hfb : fb < w.heap.size := h.box.lt
  obtain ⟨AN, hAN⟩ : ∃ AN : Value, AN = (if (askW F K W ds).2 then .nilIface else .iface 221 (.pointer (some a1))) := ⟨_, rfl⟩
  rw [← hAN]
  have HAN := hide hAN
  clear h hg hR hvb hok hK hAN
  go_enter Tryz.func17, Tryz.ntmps17
  go_wp2_with fail
  go_loopw [10] (fun i wr => ∃ (k : Nat) (W' : List Wn) (wa' : Option Addr) (wk' : Nat) (ps' : List Nat), k ≤ ds.length ∧ i = .int .i64 k ∧ W'.length ≤ 1048576 ∧ Hid (NowF B fb wr W' F L wa' wk' ps' fa fc bm N) ∧ Hid (Below fb w wr) ∧ Hid (askW F K W ds = askW F K W' (ds.drop k))) (fun i _ => ds.length - (intOf i).toNat)
  case atStart => exact ⟨0, W, wa, wk, ps, Nat.zero_le _, rfl, hWl, HN, hide (Below.refl _ _), hide (by simp)⟩
  case round =>
    obtain ⟨k, W', wa', wk', ps', hk, rfl, hW', NW, BW, EQ⟩ := hrel
    by_cases hlt : k < ds.length
    · obtain ⟨b1, o1, rfl, hb1, hc1⟩ := HR.out _ BW.out (by intro e; simp [e] at hlt)
      obtain ⟨d, hd⟩ : ∃ d, d = ds.getD k 0 := ⟨_, rfl⟩
      have c1 := hc1 k hlt
      rw [← hd] at c1
      have hlt' : (k : Int) < (ds.length : Int) := by omega
      have hmem : d ∈ ds := by rw [hd, List.getD_eq_getElem?_getD, List.getElem?_eq_getElem hlt]; exact List.getElem_mem hlt
      have HD := hide (HO.out d hmem)
      have ST := hide (askW_step (F := F) (K := K) (W := W') hlt)
      rw [← hd] at ST
      clear hc1 hmem hd
      by_cases hf : d ∈ F
      · have CA := hide (ask_failed B fb W' F L wa' wk' ps' fa fc bm N d _ NW.out hFl hf)
        have CF := hide (isFailure_yes d a0 a1 _ (HG.out _ BW.out))
        have EQ2 : Hid (askW F K W ds = askW F K W' (ds.drop (k + 1))) := hide (EQ.out.trans (ST.out.trans (if_pos hf)))
        clear hf ST EQ HD
        go_wp2_with fail
        refine CA.out.mono ?_
        rintro e w1 ⟨rfl, rfl⟩
        go_wp2_with fail
        refine CF.out.mono ?_
        rintro e w2 ⟨rfl, hb2⟩
        have B2 := hide (BW.out.trans (hb2.mono (by have := BW.out.size; omega)))
        have N2 := hide (NW.out.below hb2)
        clear hb2
        go_wp2_with fail
        exact ⟨⟨k + 1, W', wa', wk', ps', hlt, by simp, hW', N2, B2, EQ2⟩, by simp [intOf]; omega⟩
      · by_cases hkn : d ∈ K ∨ d ∈ W'.map Prod.fst
        · have CA := hide (ask_known B fb W' F L wa' wk' ps' fa fc bm N d _ NW.out hW' hFl HD.out hf (by rw [← HK.out]; exact hkn))
          have EQ2 : Hid (askW F K W ds = askW F K W' (ds.drop (k + 1))) := hide (EQ.out.trans (ST.out.trans ((if_neg hf).trans (if_pos hkn))))
          clear hf hkn ST EQ HD
          go_wp2_with fail
          refine CA.out.mono ?_
          rintro e w1 ⟨rfl, hb2⟩
          have B2 := hide (BW.out.trans (hb2.mono (by have := BW.out.size; omega)))
          have N2 := hide (NW.out.below hb2)
          clear hb2
          go_wp2_with fail
          exact ⟨⟨k + 1, W', wa', wk', ps', hlt, by simp, hW', N2, B2, EQ2⟩, by simp [intOf]; omega⟩
        · by_cases hfull : 12 ≤ W'.length
          · have CA := hide (ask_full B fb W' F L wa' wk' ps' fa fc bm N d a0 a1 _ (HG.out _ BW.out) NW.out hW' hFl HD.out hf (by rw [← HK.out]; exact hkn) hfull)
            have EQ2 : Hid (askW F K W ds = (W', false)) := hide (EQ.out.trans (ST.out.trans ((if_neg hf).trans ((if_neg hkn).trans (if_pos hfull)))))
            clear hf hkn hfull ST EQ HD
            go_wp2_with fail
            refine CA.out.mono ?_
            rintro e w1 ⟨rfl, hb2⟩
            have B2 := hide (BW.out.trans (hb2.mono (by have := BW.out.size; omega)))
            have N2 := hide (NW.out.below hb2)
            have CF := hide (isFailure_no a1 a0 a1 w1 (HG.out _ B2.out))
            clear hb2
            go_wp2_with fail
            refine CF.out.mono ?_
            rintro e w2 ⟨rfl, hb3⟩
            have B3 := hide (B2.out.trans (hb3.mono (by have := B2.out.size; omega)))
            have N3 := hide (N2.out.below hb3)
            clear hb3
            go_wp2_with fail
            go_ret
            rw [EQ2.out]
            exact ⟨by rw [HAN.out, EQ2.out]; first | rfl | simp, ⟨wa', wk', ps', N3.out⟩, B3.out⟩
          · have CA := hide (ask_new B fb W' F L wa' wk' ps' fa fc bm N d _ NW.out hB hFl HD.out hf (by rw [← HK.out]; exact hkn) hfull)
            have EQ2 : Hid (askW F K W ds = askW F K (W' ++ [(d, 0)]) (ds.drop (k + 1))) := hide (EQ.out.trans (ST.out.trans ((if_neg hf).trans ((if_neg hkn).trans (if_neg hfull)))))
            have hW2 : Hid ((W' ++ [(d, (0 : Int))]).length ≤ 1048576) := hide (by simp; omega)
            clear hf hkn hfull ST EQ HD
            go_wp2_with fail
            refine CA.out.mono ?_
            rintro e w1 ⟨rfl, ⟨wa2, wk2, p2, hn2⟩, hb2⟩
            have B2 := hide (BW.out.trans hb2)
            have N2 := hide hn2
            clear hb2 hn2
            go_wp2_with fail
            exact ⟨⟨k + 1, W' ++ [(d, 0)], wa2, wk2, ps' ++ [p2], hlt, by simp, hW2.out, N2, B2, EQ2⟩, by simp [intOf]; omega⟩
    · obtain rfl : k = ds.length := by omega
      have EQ2 : Hid (askW F K W ds = (W', true)) := hide (EQ.out.trans (by rw [List.drop_length]; rfl))
      clear EQ
      go_wp2_with fail
      go_ret
      rw [EQ2.out]
      exact ⟨by rw [HAN.out, EQ2.out]; first | rfl | simp, ⟨wa', wk', ps', NW.out⟩, BW.out⟩
end Go.Proofs.YtejfcapocikjmaaGreatDoor

namespace Go.Proofs.YtejfcapocikjmaaGreatDoor
open Go.RowKit Go.Maps
set_option linter.unusedVariables false

theorem OwnF.now {B fb : Nat} {w : World} {W : List Wn} {F : List Int} {L : List Ch} (h : OwnF B fb w W F L) : ∃ wa wk ps fa fc bm N, NowF B fb w W F L wa wk ps fa fc bm N ∧ N ≤ 1000 := by
  obtain ⟨wa, wk, ps, fa, fc, bm, N, h1, h2, ⟨h3, h4⟩, h5, h6, h7, h8⟩ := h
  exact ⟨wa, wk, ps, fa, fc, bm, N, ⟨h1, h2, h3, h4, h5, h6, h7, by omega⟩, h8⟩
set_option maxRecDepth 100000 in
set_option maxHeartbeats 6400000 in
theorem implAskFetch_away (wa : Option Addr) (wk : Nat) (W : List Wn) (fa : Option Addr) (fc : Nat) (F : List Int) (ca : Option Addr) (cc n : Nat) (D : Nat → Int) (P : Nat → List Int) (d : Int) (w : World) (a0 a1 : Addr) (hg : Ge w a0 a1) (h : RdF w wa W fa F ca D P n) (hn : n ≤ 1048576) (hP : SmallP P n) (hWl : W.length ≤ 1048576) (hFl : F.length ≤ 1048576) (hz : fetFault W F D P n = 0) (hR : RightC D P n) (hd : okD d) (hf : d ∈ F) :
    Calls Tryz.prog 10 #[fetV wa W.length wk fa F.length fc ca n cc, .int .i64 d] w (ResF 8 [] [] D P 0 w) := by
  have B0 := hide (below_next (below_alloc w (.cells #[.slice wa W.length wk, .slice fa F.length fc, .slice ca n cc] 28)) (below_alloc _ (.cells #[.int .i64 0, .slice none 0 0, .slice none 0 0, .slice none 0 0] 33)))
  have X0 := hide ((Bx3.new w (.slice wa W.length wk) (.slice fa F.length fc) (.slice ca n cc) 28).below (below_alloc _ (.cells #[.int .i64 0, .slice none 0 0, .slice none 0 0, .slice none 0 0] 33)))
  have R0 := hide (Bx4.new (w.alloc (.cells #[.slice wa W.length wk, .slice fa F.length fc, .slice ca n cc] 28)) (.int .i64 0) (.slice none 0 0) (.slice none 0 0) (.slice none 0 0) 33)
  have hs : (w.alloc (.cells #[.slice wa W.length wk, .slice fa F.length fc, .slice ca n cc] 28)).heap.size = w.heap.size + 1 := by simp
  rw [hs] at R0
  clear hs
  have HFF := hide (implFetchFault_any wa wk W fa fc F ca cc n D P _ (h.below B0.out) hn hP hWl hFl)
  rw [hz] at HFF
  have HIS := hide (fun (u : World) => isDg_any d u)
  rw [decide_eq_true hd] at HIS
  have HFO := hide (fun (u : World) (hu : Below w.heap.size w u) => fetchingOf_any wa wk W fa fc F ca cc n D P u (h.below hu) hR hWl hFl)
  have HRt := hide hR
  have HOK := hide hd
  have HG := hide hg
  have HF1 := hide hf
  clear h hP hz hd hR hg hf
  unfold fetV at HFF HFO ⊢
  go_enter Tryz.func10, Tryz.ntmps10
  obtain ⟨⟨t0, t1, t2⟩, -, -, -⟩ := X0.out
  go_wp2_with fail
  clear t0 t1 t2
  generalize (w.alloc (.cells #[.slice wa W.length wk, .slice fa F.length fc, .slice ca n cc] 28)).alloc (.cells #[.int .i64 0, .slice none 0 0, .slice none 0 0, .slice none 0 0] 33) = W0 at *
  refine HFF.out.mono ?_
  rintro e w1 ⟨rfl, hb1⟩
  have B1 := hide (below_next B0.out hb1)
  have X1 := hide (X0.out.below hb1)
  have R1 := hide (R0.out.below hb1)
  clear hb1 X0 R0 B0 HFF
  go_wp2_with fail
  refine (HIS.out w1).mono ?_
  rintro e w1 ⟨rfl, rfl⟩
  obtain ⟨⟨t0, t1, t2⟩, -, -, -⟩ := X1.out
  go_wp2_with fail
  clear t0 t1 t2
  refine (HFO.out w1 B1.out).mono ?_
  rintro e w2 ⟨fb, rfl, hO, hfb, hb2⟩
  obtain ⟨va, vc, ps, ga, gc, bm, N, hN, hN1000⟩ := hO.now
  have B2 := hide (below_next B1.out hb2)
  have R2 := hide (R1.out.below hb2)
  have N2 := hide hN
  have hz2 := hb2.size
  have hr1 := R1.out.lt
  have hfl := hN.box.lt
  have hzw := B1.out.size
  clear hb2 hN hO R1 HFO HIS X1
  have HAS := hide (ask_failed w1.heap.size fb W F (lst D P n) va vc ps ga gc bm N d w2 N2.out hFl HF1.out)
  have HAE := hide (answer_err fb 97 (.agg #[.int .i64 d]) 8 w2 (fun u hu => fetchCode_failure d a0 a1 u (HG.out.below (below_next B2.out hu))))
  go_wp2_with fail
  refine HAS.out.mono ?_
  rintro e w2 ⟨rfl, rfl⟩
  go_wp2_with fail
  refine HAE.out.mono ?_
  rintro e w3 ⟨rfl, hb3⟩
  have B3 := hide (below_next B2.out hb3)
  have R3 := hide (R2.out.below hb3)
  clear hb3
  obtain ⟨⟨m0, m1, m2, m3⟩, k0, k1, k2, k3⟩ := R3.out
  go_wp2_with fail
  have hk := Kept.fourF w3 (w.heap.size + 1) (.int .i64 8) (.slice none 0 0) (.slice none 0 0) (.slice none 0 0)
  exact bodyPost_ret (v := .agg #[.int .i64 8, .slice none 0 0, .slice none 0 0, .slice none 0 0]) (by simp [results, Tryz.results10, go_sem, m0, m1, m2, m3]) rfl (ResF.bad (B3.out.trans (hk.below (B := w.heap.size) B3.out.size (fun k hk e => by omega))))
set_option maxRecDepth 100000 in
set_option maxHeartbeats 6400000 in
theorem implAskFetch_known (wa : Option Addr) (wk : Nat) (W : List Wn) (fa : Option Addr) (fc : Nat) (F : List Int) (ca : Option Addr) (cc n : Nat) (D : Nat → Int) (P : Nat → List Int) (d : Int) (w : World) (h : RdF w wa W fa F ca D P n) (hn : n ≤ 1048576) (hP : SmallP P n) (hWl : W.length ≤ 1048576) (hFl : F.length ≤ 1048576) (hz : fetFault W F D P n = 0) (hR : RightC D P n) (hd : okD d) (hf : d ∉ F) (hk : d ∈ keysC D n ∨ d ∈ W.map Prod.fst) :
    Calls Tryz.prog 10 #[fetV wa W.length wk fa F.length fc ca n cc, .int .i64 d] w (ResF 0 W F D P n w) := by
  have B0 := hide (below_next (below_alloc w (.cells #[.slice wa W.length wk, .slice fa F.length fc, .slice ca n cc] 28)) (below_alloc _ (.cells #[.int .i64 0, .slice none 0 0, .slice none 0 0, .slice none 0 0] 33)))
  have X0 := hide ((Bx3.new w (.slice wa W.length wk) (.slice fa F.length fc) (.slice ca n cc) 28).below (below_alloc _ (.cells #[.int .i64 0, .slice none 0 0, .slice none 0 0, .slice none 0 0] 33)))
  have R0 := hide (Bx4.new (w.alloc (.cells #[.slice wa W.length wk, .slice fa F.length fc, .slice ca n cc] 28)) (.int .i64 0) (.slice none 0 0) (.slice none 0 0) (.slice none 0 0) 33)
  have hs : (w.alloc (.cells #[.slice wa W.length wk, .slice fa F.length fc, .slice ca n cc] 28)).heap.size = w.heap.size + 1 := by simp
  rw [hs] at R0
  clear hs
  have HFF := hide (implFetchFault_any wa wk W fa fc F ca cc n D P _ (h.below B0.out) hn hP hWl hFl)
  rw [hz] at HFF
  have HIS := hide (fun (u : World) => isDg_any d u)
  rw [decide_eq_true hd] at HIS
  have HFO := hide (fun (u : World) (hu : Below w.heap.size w u) => fetchingOf_any wa wk W fa fc F ca cc n D P u (h.below hu) hR hWl hFl)
  have HRt := hide hR
  have HOK := hide hd
  have HF1 := hide hf
  have HK1 : Hid (d ∈ (lst D P n).map Prod.fst ∨ d ∈ W.map Prod.fst) := hide (by rw [keys_lst]; exact hk)
  clear h hP hz hd hR hf hk
  unfold fetV at HFF HFO ⊢
  go_enter Tryz.func10, Tryz.ntmps10
  obtain ⟨⟨t0, t1, t2⟩, -, -, -⟩ := X0.out
  go_wp2_with fail
  clear t0 t1 t2
  generalize (w.alloc (.cells #[.slice wa W.length wk, .slice fa F.length fc, .slice ca n cc] 28)).alloc (.cells #[.int .i64 0, .slice none 0 0, .slice none 0 0, .slice none 0 0] 33) = W0 at *
  refine HFF.out.mono ?_
  rintro e w1 ⟨rfl, hb1⟩
  have B1 := hide (below_next B0.out hb1)
  have X1 := hide (X0.out.below hb1)
  have R1 := hide (R0.out.below hb1)
  clear hb1 X0 R0 B0 HFF
  go_wp2_with fail
  refine (HIS.out w1).mono ?_
  rintro e w1 ⟨rfl, rfl⟩
  obtain ⟨⟨t0, t1, t2⟩, -, -, -⟩ := X1.out
  go_wp2_with fail
  clear t0 t1 t2
  refine (HFO.out w1 B1.out).mono ?_
  rintro e w2 ⟨fb, rfl, hO, hfb, hb2⟩
  obtain ⟨va, vc, ps, ga, gc, bm, N, hN, hN1000⟩ := hO.now
  have B2 := hide (below_next B1.out hb2)
  have R2 := hide (R1.out.below hb2)
  have N2 := hide hN
  have hz2 := hb2.size
  have hr1 := R1.out.lt
  have hfl := hN.box.lt
  have hzw := B1.out.size
  clear hb2 hN hO R1 HFO HIS X1
  have HAS := hide (ask_known w1.heap.size fb W F (lst D P n) va vc ps ga gc bm N d w2 N2.out hWl hFl HOK.out HF1.out HK1.out)
  go_wp2_with fail
  refine HAS.out.mono ?_
  rintro e w3 ⟨rfl, hb3⟩
  have B3 := hide (below_next B2.out hb3)
  have R3 := hide (R2.out.below hb3)
  have N3 := hide (N2.out.below hb3)
  have hz3 := hb3.size
  clear hb3 HAS R2 N2
  have hl2 : (lst D P n).length = n := lst_length D P n
  have HAN := hide (answer_nil fb va vc ps W ga gc F.length bm N w1.heap.size (lst D P n) w3 N3.out.box N3.out.wants.rd N3.out.held (by have := B3.out.size; omega) (by first | exact hWl | (simp; omega)) (by rw [hl2]; exact hn) (lst_small HRt.out))
  go_wp2_with fail
  refine HAN.out.mono ?_
  rintro e w4 ⟨xa, xc, ya, yc, rfl, hOW, hGC, hb4⟩
  rw [hl2] at hGC ⊢
  have OW4 := hide hOW
  have GC4 := hide (gc_right HRt.out hGC)
  have OF4 := hide (ownsRow_below N3.out.failed hb4)
  have B4 := hide (below_next B3.out hb4)
  obtain ⟨⟨m0, m1, m2, m3⟩, k0, k1, k2, k3⟩ := R3.out.below hb4
  have hz4 := hb4.size
  clear hOW hGC hb4
  go_wp2_with fail
  exact bodyPost_ret (v := .agg #[.int .i64 0, .slice xa W.length xc, .slice ga F.length gc, .slice ya n yc]) (by simp [results, Tryz.results10, go_sem, m0, m1, m2, m3]) rfl (ResF.box (B := w1.heap.size) (OW4.out.mono (by omega)) OF4.out (GC4.out.mono (by omega)) B4.out (by omega) (by omega))
end Go.Proofs.YtejfcapocikjmaaGreatDoor

namespace Go.Proofs.YtejfcapocikjmaaGreatDoor
set_option linter.unusedVariables false

abbrev Bs := List UInt8
def str (l : Bs) : ByteArray := ⟨l.toArray⟩
theorem str_data (l : Bs) : (str l).data.toList = l := by simp [str]
theorem str_size (l : Bs) : (str l).size = l.length := by simp [str, ByteArray.size]
theorem str_of (s : ByteArray) : str s.data.toList = s := by simp [str]
def cutB : Bs → List Bs
  | [] => [[]]
  | c :: l => if c = 47 then [] :: cutB l else
    match cutB l with
    | [] => [[c]]
    | p :: ps => (c :: p) :: ps
def joinB : List Bs → Bs
  | [] => []
  | n :: ns => 47 :: (n ++ joinB ns)

theorem cutB_ne (l : Bs) : cutB l ≠ [] := by
  cases l with
  | nil => simp [cutB]
  | cons c l =>
    simp only [cutB]
    split
    · simp
    · split <;> simp
theorem cutB_stroke (l : Bs) : cutB (47 :: l) = [] :: cutB l := by simp [cutB]
theorem cutB_other {c : UInt8} (h : c ≠ 47) {l : Bs} {p : Bs} {ps : List Bs} (e : cutB l = p :: ps) : cutB (c :: l) = (c :: p) :: ps := by
  simp [cutB, h, e]
theorem cutB_head (l : Bs) : ∃ p ps, cutB l = p :: ps := by
  cases e : cutB l with
  | nil => exact absurd e (cutB_ne l)
  | cons p ps => exact ⟨p, ps, rfl⟩

theorem cutB_miss {l : Bs} (h : (47 : UInt8) ∉ l) : cutB l = [l] := by
  induction l with
  | nil => rfl
  | cons c l ih =>
    have h1 : c ≠ 47 := fun e => h (by simp [e])
    have h2 : (47 : UInt8) ∉ l := fun e => h (by simp [e])
    exact cutB_other h1 (ih h2)
theorem cutB_hit {a : Bs} (b : Bs) (h : (47 : UInt8) ∉ a) : cutB (a ++ 47 :: b) = a :: cutB b := by
  induction a with
  | nil => exact cutB_stroke b
  | cons c a ih =>
    have h1 : c ≠ 47 := fun e => h (by simp [e])
    have h2 : (47 : UInt8) ∉ a := fun e => h (by simp [e])
    exact cutB_other h1 (ih h2)

theorem cutB_snoc : ∀ (l : Bs) (c : UInt8) (o : List Bs) (x : Bs), cutB l = o ++ [x] → cutB (l ++ [c]) = if c = 47 then o ++ [x] ++ [[]] else o ++ [x ++ [c]]
  | [], c, o, x, h => by
    have e : o = [] ∧ x = [] := by
      cases o with
      | nil => simpa [cutB, eq_comm] using h
      | cons a o => simp [cutB] at h
    obtain ⟨rfl, rfl⟩ := e
    by_cases hc : c = 47
    · subst hc; simp [cutB]
    · simp [cutB, hc]
  | d :: l, c, o, x, h => by
    by_cases hd : d = 47
    · subst hd
      rw [cutB_stroke] at h
      cases o with
      | nil =>
        simp at h
        exact absurd h.2 (cutB_ne l)
      | cons a o =>
        simp at h
        obtain ⟨rfl, h⟩ := h
        have ih := cutB_snoc l c o x h
        simp only [List.cons_append, cutB_stroke, ih]
        split <;> simp
    · obtain ⟨p, ps, e⟩ := cutB_head l
      rw [cutB_other hd e] at h
      cases o with
      | nil =>
        simp at h
        obtain ⟨rfl, rfl⟩ := h
        have ih := cutB_snoc l c [] p e
        by_cases hc : c = 47
        · simp only [hc, if_pos, List.nil_append, List.cons_append] at ih ⊢
          exact cutB_other hd ih
        · simp only [hc, if_false, List.nil_append, List.cons_append] at ih ⊢
          exact cutB_other hd ih
      | cons a o =>
        simp at h
        obtain ⟨rfl, h⟩ := h
        have ih := cutB_snoc l c (p :: o) x (by simp [e, h])
        by_cases hc : c = 47
        · simp only [hc, if_pos, List.cons_append] at ih ⊢
          exact cutB_other hd ih
        · simp only [hc, if_false, List.cons_append] at ih ⊢
          exact cutB_other hd ih

theorem cutB_no : ∀ (l : Bs), ∀ n ∈ cutB l, (47 : UInt8) ∉ n
  | [], n, h => by simp [cutB] at h; simp [h]
  | c :: l, n, h => by
    by_cases hc : c = 47
    · subst hc
      rw [cutB_stroke] at h
      rcases List.mem_cons.1 h with rfl | h
      · simp
      · exact cutB_no l n h
    · obtain ⟨p, ps, e⟩ := cutB_head l
      rw [cutB_other hc e] at h
      rcases List.mem_cons.1 h with rfl | h
      · have := cutB_no l p (by simp [e])
        simp [this, Ne.symm hc]
      · exact cutB_no l n (by simp [e, h])

theorem join_append (a b : List Bs) : joinB (a ++ b) = joinB a ++ joinB b := by
  induction a with
  | nil => rfl
  | cons n a ih => simp [joinB, ih]
theorem join_cut : ∀ (l : Bs), joinB (cutB l) = 47 :: l
  | [] => rfl
  | c :: l => by
    by_cases hc : c = 47
    · subst hc
      rw [cutB_stroke, joinB, join_cut l]; rfl
    · obtain ⟨p, ps, e⟩ := cutB_head l
      have ih := join_cut l
      rw [e, joinB] at ih
      rw [cutB_other hc e, joinB]
      simp at ih ⊢
      exact ih
theorem cut_join : ∀ {ns : List Bs}, ns ≠ [] → (∀ n ∈ ns, (47 : UInt8) ∉ n) → cutB (joinB ns).tail = ns
  | [], h, _ => absurd rfl h
  | [n], _, h => by simpa [joinB] using cutB_miss (h n (by simp))
  | n :: m :: ns, _, h => by
    have ih := cut_join (ns := m :: ns) (by simp) (fun x hx => h x (by simp [List.mem_cons.1 hx]))
    have e : joinB (n :: m :: ns) = 47 :: (n ++ 47 :: (joinB (m :: ns)).tail) := by simp [joinB]
    rw [e, List.tail_cons, cutB_hit _ (h n (by simp)), ih]
theorem joinB_cons {ns : List Bs} (h : ns ≠ []) : joinB ns = 47 :: (joinB ns).tail := by
  cases ns with
  | nil => exact absurd rfl h
  | cons n ns => rfl

theorem cutB_length (l : Bs) : (cutB l).length ≤ l.length + 1 := by
  induction l with
  | nil => simp [cutB]
  | cons c l ih =>
    by_cases hc : c = 47
    · subst hc; rw [cutB_stroke]; simp; omega
    · obtain ⟨p, ps, e⟩ := cutB_head l
      rw [cutB_other hc e]
      rw [e] at ih
      simp at ih ⊢; omega
theorem cutB_each : ∀ (l : Bs), ∀ n ∈ cutB l, n.length ≤ l.length
  | [], n, h => by simp [cutB] at h; simp [h]
  | c :: l, n, h => by
    by_cases hc : c = 47
    · subst hc
      rw [cutB_stroke] at h
      rcases List.mem_cons.1 h with rfl | h
      · simp
      · have := cutB_each l n h; simp; omega
    · obtain ⟨p, ps, e⟩ := cutB_head l
      rw [cutB_other hc e] at h
      rcases List.mem_cons.1 h with rfl | h
      · have := cutB_each l p (by simp [e]); simp; omega
      · have := cutB_each l n (by simp [e, h]); simp; omega

def small (c : UInt8) : Bool := decide (97 ≤ (c.toNat : Int) ∧ (c.toNat : Int) ≤ 122)
def plain (n : Bs) : Bool := n.all small && !n.isEmpty
def faultN (ns : List Bs) : Int := if ns.all plain then (if ns.all (fun n => decide (n.length ≤ 4)) && decide (ns.length ≤ 3) then 0 else 2) else 5
def faultP (p : Bs) : Int :=
  match p with
  | [] => 5
  | c :: r => if c = 47 then faultN (cutB r) else 5

def Names (ns : List Bs) : Prop := ns ≠ [] ∧ (∀ n ∈ ns, plain n = true) ∧ (∀ n ∈ ns, n.length ≤ 4) ∧ ns.length ≤ 3

theorem plain_no {n : Bs} (h : plain n = true) : (47 : UInt8) ∉ n := by
  intro hm
  simp only [plain, Bool.and_eq_true, List.all_eq_true] at h
  have := h.1 47 hm
  exact absurd this (by decide)
theorem plain_ne {n : Bs} (h : plain n = true) : n ≠ [] := by
  intro e
  subst e
  simp [plain] at h
theorem faultN_zero {ns : List Bs} (hne : ns ≠ []) (h : faultN ns = 0) : Names ns := by
  unfold faultN at h
  split at h
  · rename_i hp
    split at h
    · rename_i hq
      simp at hp hq
      exact ⟨hne, hp, hq.1, hq.2⟩
    · omega
  · omega
theorem faultN_of {ns : List Bs} (h : Names ns) : faultN ns = 0 := by
  obtain ⟨h0, h1, h2, h3⟩ := h
  unfold faultN
  rw [if_pos (by simpa using h1), if_pos (by simpa using ⟨h2, h3⟩)]
theorem names_no {ns : List Bs} (h : Names ns) : ∀ n ∈ ns, (47 : UInt8) ∉ n := fun n hn => plain_no (h.2.1 n hn)
theorem faultP_zero {p : Bs} (h : faultP p = 0) : ∃ ns, Names ns ∧ p = joinB ns ∧ cutB p.tail = ns ∧ p = 47 :: p.tail := by
  cases p with
  | nil => simp [faultP] at h
  | cons c r =>
    by_cases hc : c = 47
    · subst hc
      simp only [faultP, if_pos] at h
      have hn := faultN_zero (cutB_ne r) h
      exact ⟨cutB r, hn, by rw [join_cut], rfl, rfl⟩
    · simp [faultP, hc] at h
theorem faultP_of {ns : List Bs} (h : Names ns) : faultP (joinB ns) = 0 := by
  rw [joinB_cons h.1]
  simp only [faultP, if_pos]
  rw [cut_join h.1 (names_no h)]
  exact faultN_of h
def aboveN (ns : List Bs) : List Bs := (List.range (ns.length - 1)).map fun k => joinB (ns.take (k + 1))
def above (p : Bs) : List Bs := if faultP p = 0 then aboveN (cutB p.tail) else []

theorem aboveN_length (ns : List Bs) : (aboveN ns).length = ns.length - 1 := by simp [aboveN]
theorem names_take {ns : List Bs} (h : Names ns) {k : Nat} (hk : 0 < k) : Names (ns.take k) := by
  obtain ⟨h0, h1, h2, h3⟩ := h
  refine ⟨?_, fun n hn => h1 n (List.mem_of_mem_take hn), fun n hn => h2 n (List.mem_of_mem_take hn), by simp; omega⟩
  cases ns with
  | nil => exact absurd rfl h0
  | cons a l => cases k with
    | zero => omega
    | succ k => simp
theorem mem_aboveN {ns : List Bs} {t : Bs} : t ∈ aboveN ns ↔ ∃ k, 0 < k ∧ k < ns.length ∧ t = joinB (ns.take k) := by
  unfold aboveN
  simp only [List.mem_map, List.mem_range]
  constructor
  · rintro ⟨k, hk, rfl⟩; exact ⟨k + 1, by omega, by omega, rfl⟩
  · rintro ⟨k, h0, hk, rfl⟩
    refine ⟨k - 1, by omega, ?_⟩
    have : k - 1 + 1 = k := by omega
    rw [this]

def belowB (p t : Bs) : Bool := decide (t.length + 1 < p.length) && (p.take t.length == t) && (p.drop t.length).head? == some 47

theorem above_iff {p t : Bs} (hp : faultP p = 0) : t ∈ aboveN (cutB p.tail) ↔ faultP t = 0 ∧ belowB p t = true := by
  obtain ⟨ns, hN, hpe, hc, hs⟩ := faultP_zero hp
  rw [hc, mem_aboveN]
  constructor
  · rintro ⟨k, h0, hk, rfl⟩
    refine ⟨faultP_of (names_take hN h0), ?_⟩
    have hd : ns.drop k ≠ [] := by intro e; have := congrArg List.length e; simp at this; omega
    obtain ⟨m, ms, hm⟩ : ∃ m ms, ns.drop k = m :: ms := by
      cases e : ns.drop k with
      | nil => exact absurd e hd
      | cons m ms => exact ⟨m, ms, rfl⟩
    have hm1 : m ∈ ns := List.mem_of_mem_drop (by rw [hm]; simp)
    have hm2 := plain_ne (hN.2.1 m hm1)
    have e : p = joinB (ns.take k) ++ 47 :: (m ++ joinB ms) := by
      rw [hpe]
      conv => lhs; rw [← List.take_append_drop k ns, join_append, hm, joinB]
    have hl : 0 < m.length := List.length_pos_iff.2 hm2
    rw [e]
    simp [belowB]
    omega
  · rintro ⟨ht, hb⟩
    obtain ⟨ms, hM, hte, hcm, hsm⟩ := faultP_zero ht
    simp only [belowB, Bool.and_eq_true, decide_eq_true_eq, beq_iff_eq] at hb
    obtain ⟨⟨hlen, htake⟩, hhead⟩ := hb
    obtain ⟨r, hr⟩ : ∃ r, p.drop t.length = 47 :: r := by
      cases e : p.drop t.length with
      | nil => rw [e] at hhead; simp at hhead
      | cons c r => rw [e] at hhead; simp at hhead; exact ⟨r, by rw [hhead]⟩
    have e : p = joinB (ms ++ cutB r) := by
      rw [join_append, join_cut, ← hte, ← hr]
      conv => lhs; rw [← List.take_append_drop t.length p, htake]
    have hns : ns = ms ++ cutB r := by
      rw [← hc, e]
      refine cut_join (by simp [hM.1]) (fun n hn => ?_)
      rcases List.mem_append.1 hn with h | h
      · exact names_no hM n h
      · exact cutB_no r n h
    refine ⟨ms.length, List.length_pos_iff.2 hM.1, ?_, ?_⟩
    · rw [hns]; have := List.length_pos_iff.2 (cutB_ne r); simp; omega
    · rw [hns]; simp [hte]

end Go.Proofs.YtejfcapocikjmaaGreatDoor

namespace Go.Proofs.YtejfcapocikjmaaGreatDoor
open Go.RowKit
set_option linter.unusedVariables false

theorem ret_str {a b : ByteArray} (h : a = b) : Ending.returned (.string a) = .returned (.string b) := by rw [h]

def vS (p : Bs) : Value := .string (str p)
def OwnS (B : Nat) (w : World) (v : Value) (ps : List Bs) : Prop := w.ownsRow B 9 1 v ps.length (ps.map vS)
def ReadsS (w : World) (a : Option Addr) (ps : List Bs) : Prop :=
  ps ≠ [] → ∃ b off, a = some ⟨b, off, none⟩ ∧ b < w.heap.size ∧ ∀ i, i < ps.length → w.cell? ⟨b, off + i, none⟩ = some (.string (str (ps.getD i [])))

theorem ReadsS.kept {S : Nat → Prop} {w w' : World} {a : Option Addr} {ps : List Bs} (h : ReadsS w a ps) (hk : Kept S w w') (hn : ps ≠ [] → ∀ x, a = some x → ¬ S x.block) : ReadsS w' a ps := by
  intro hz
  obtain ⟨b, off, rfl, hb, hc⟩ := h hz
  exact ⟨b, off, rfl, Nat.lt_of_lt_of_le hb hk.size, fun i hi => (hk.cell (p := ⟨b, off + i, none⟩) hb (hn hz ⟨b, off, none⟩ rfl)).trans (hc i hi)⟩
theorem ReadsS.below {w w' : World} {a : Option Addr} {ps : List Bs} (h : ReadsS w a ps) (hk : Below w.heap.size w w') : ReadsS w' a ps :=
  h.kept (S := fun _ => False) (Kept.of_below hk) (fun _ _ _ => id)
theorem ReadsS.take {w : World} {a : Option Addr} {ps : List Bs} (h : ReadsS w a ps) (k : Nat) : ReadsS w a (ps.take k) := by
  intro hz
  have hp : ps ≠ [] := by rintro rfl; simp at hz
  obtain ⟨b, off, rfl, hb, hc⟩ := h hp
  refine ⟨b, off, rfl, hb, fun i hi => ?_⟩
  have hi' : i < k ∧ i < ps.length := by simpa [Nat.lt_min] using hi
  rw [hc i hi'.2]
  simp [List.getD_eq_getElem?_getD, hi'.1]

theorem ReadsS.at {w : World} {a : Option Addr} {ps : List Bs} (h : ReadsS w a ps) {k : Nat} (hk : k < ps.length) :
    ∃ b off p, a = some ⟨b, off, none⟩ ∧ b < w.heap.size ∧ ps[k]? = some p ∧ w.cell? ⟨b, off + k, none⟩ = some (.string (str p)) := by
  obtain ⟨b, off, e, hb, hc⟩ := h (by intro e; simp [e] at hk)
  refine ⟨b, off, ps[k], e, hb, by simp [hk], ?_⟩
  rw [hc k hk]
  simp [List.getD_eq_getElem?_getD, hk]

namespace OwnS
variable {B : Nat} {w w' : World} {v : Value} {ps : List Bs}
theorem nil (B : Nat) (w : World) : OwnS B w (.slice none 0 0) [] := World.ownsRow_nil _ _ _ _
theorem shape (h : OwnS B w v ps) : ∃ a c, v = .slice a ps.length c := ownsRow_shape h
theorem below (h : OwnS B w v ps) (hk : Below w.heap.size w w') : OwnS B w' v ps := ownsRow_below h hk
theorem kept {S : Nat → Prop} (h : OwnS B w v ps) (hk : Kept S w w') (hn : ∀ b, v.ownBlock = some b → ¬ S b) : OwnS B w' v ps := ownsRow_kept h hk hn
theorem mono {B' : Nat} (h : OwnS B w v ps) (hb : B' ≤ B) : OwnS B' w v ps := ownsRow_mono h hb
theorem cap {a : Option Addr} {n c : Nat} (h : OwnS B w (.slice a n c) ps) (hn : n = ps.length) : n ≤ c := by
  subst hn; exact ownsRow_cap h
theorem reads {a : Option Addr} {n c : Nat} (h : OwnS B w (.slice a n c) ps) : ReadsS w a ps := by
  intro hz
  have h0 : 0 < ps.length := List.length_pos_iff.2 hz
  rcases h.2 with ⟨h', hh⟩ | ⟨g, cap, cur, h', hb, hh, hnc, hcm, hcs, htake⟩
  · omega
  · have hl : n = ps.length ∧ a = some ⟨g, 0, none⟩ := by simp only [Value.slice.injEq] at h'; exact ⟨h'.2.1, h'.1⟩
    obtain ⟨rfl, rfl⟩ := hl
    refine ⟨g, 0, rfl, (h.lt g rfl).2, fun i hi => ?_⟩
    have := World.ownsRow.cellAt h i (by omega)
    rw [Nat.zero_add, this]
    simp [List.getD_eq_getElem?_getD, hi, vS]
end OwnS

theorem OwnS.snoc {B : Nat} {w : World} {v : Value} {ps : List Bs} {p : Bs} {s : ByteArray} (h : w.ownsRow B 9 1 v (ps.length + 1) (ps.map vS ++ #[Value.string s].toList)) (hs : s = str p) : OwnS B w v (ps ++ [p]) := by
  unfold OwnS
  subst hs
  simpa [vS] using h

end Go.Proofs.YtejfcapocikjmaaGreatDoor

namespace Go.Proofs.YtejfcapocikjmaaGreatDoor
open Go.RowKit
set_option linter.unusedVariables false

theorem small_take_snoc (s : ByteArray) (k : Nat) (h : k < s.size) : s.data.toList.take (k + 1) = s.data.toList.take k ++ [s[k]] := by
  rw [List.take_succ_eq_append_getElem (by simpa using h)]; rfl
theorem all_take_snoc {s : ByteArray} {k : Nat} (h : k < s.size) (ha : (s.data.toList.take k).all small = true) (hc : small s[k] = true) : (s.data.toList.take (k + 1)).all small = true := by
  rw [small_take_snoc s k h]; simp [ha, hc]
theorem all_stop {s : ByteArray} {k : Nat} (h : k < s.size) (hc : small s[k] = false) : plain s.data.toList = false := by
  have : s[k] ∈ s.data.toList := Array.mem_toList_iff.2 (Array.getElem_mem (xs := s.data) (i := k) h)
  have h2 : s.data.toList.all small = false := by
    rw [List.all_eq_false]; exact ⟨_, this, by simp [hc]⟩
  simp [plain, h2]
theorem small_yes {c : UInt8} (h1 : 97 ≤ (c.toNat : Int)) (h2 : (c.toNat : Int) ≤ 122) : small c = true := decide_eq_true ⟨h1, h2⟩
theorem small_no {c : UInt8} (h : (c.toNat : Int) < 97 ∨ 122 < (c.toNat : Int)) : small c = false := decide_eq_false (by omega)
theorem plain_end {s : ByteArray} {k : Nat} (hk : s.size ≤ k) (ha : (s.data.toList.take k).all small = true) (b : Bool) (hb : b = !s.data.toList.isEmpty) : plain s.data.toList = b := by
  rw [List.take_of_length_le (by simpa using hk)] at ha
  simp [plain, ha, hb]
theorem str_ne_empty (s : ByteArray) : (!s.toList.isEmpty) = !s.data.toList.isEmpty := by rw [ByteArray.toList_eq]

set_option maxHeartbeats 400000 in
theorem l3Plain_any (s : ByteArray) (w : World) (hs : s.size ≤ 9223372036854775807) :
    Calls Tryz.prog 101 #[.string s] w fun e w' => e = .returned (.bool (plain s.data.toList)) ∧ w' = w := by
  go_enter Tryz.func101, Tryz.ntmps101
  go_wp2
  go_loop [3] (fun i => ∃ k : Nat, k ≤ s.size ∧ i = .int .i64 k ∧ (s.data.toList.take k).all small = true) (fun i => s.size - (intOf i).toNat)
  case atStart => exact ⟨0, Nat.zero_le _, rfl, rfl⟩
  case round =>
    obtain ⟨k, hk, rfl, ha⟩ := hrel
    have HA := hide ha
    clear ha
    by_cases hlt : k < s.size
    · by_cases c1 : (s[k].toNat : Int) < 97
      · have HN := hide (all_stop hlt (small_no (.inl c1)))
        go_wp2
        go_ret
        exact ⟨ret_bool HN.out.symm, rfl⟩
      · by_cases c2 : 122 < (s[k].toNat : Int)
        · have HN := hide (all_stop hlt (small_no (.inr c2)))
          go_wp2
          go_ret
          exact ⟨ret_bool HN.out.symm, rfl⟩
        · have HN := hide (all_take_snoc hlt HA.out (small_yes (by omega) (by omega)))
          go_wp2
          go_round
          case rel => exact ⟨k + 1, by omega, by go_num, HN.out⟩
          case measure => simp [intOf]; omega
    · have HN := hide (fun b hb => plain_end (s := s) (k := k) (by omega) HA.out b hb)
      go_wp2
      go_ret
      exact ⟨ret_bool (HN.out _ (str_ne_empty s)).symm, rfl⟩

set_option maxHeartbeats 400000 in
theorem isLetters_any (s : ByteArray) (w : World) (hs : s.size ≤ 9223372036854775807) :
    Calls Tryz.prog 119 #[.string s] w fun e w' => e = .returned (.bool (plain s.data.toList)) ∧ w' = w := by
  go_enter Tryz.func119, Tryz.ntmps119
  go_wp2
  go_loop [3, 6] (fun _ i => ∃ k : Nat, k ≤ s.size ∧ i = .int .i64 k ∧ (s.data.toList.take k).all small = true) (fun _ i => s.size - (intOf i).toNat)
  case atStart => exact ⟨0, Nat.zero_le _, rfl, rfl⟩
  case round =>
    obtain ⟨k, hk, rfl, ha⟩ := hrel
    have HA := hide ha
    clear ha
    by_cases hlt : k < s.size
    · by_cases c1 : (s[k].toNat : Int) < 97
      · have HN := hide (all_stop hlt (small_no (.inl c1)))
        go_wp2
        go_ret
        exact ⟨ret_bool HN.out.symm, rfl⟩
      · by_cases c2 : 122 < (s[k].toNat : Int)
        · have HN := hide (all_stop hlt (small_no (.inr c2)))
          go_wp2
          go_ret
          exact ⟨ret_bool HN.out.symm, rfl⟩
        · have HN := hide (all_take_snoc hlt HA.out (small_yes (by omega) (by omega)))
          go_wp2
          go_round
          case rel => exact ⟨k + 1, by omega, by go_num, HN.out⟩
          case measure => simp [intOf]; omega
    · have HN := hide (fun b hb => plain_end (s := s) (k := k) (by omega) HA.out b hb)
      go_wp2
      go_ret
      exact ⟨ret_bool (HN.out _ (str_ne_empty s)).symm, rfl⟩

theorem infoS : (Tryz.prog.info? 9).map (fun i => (i.zero, i.size, i.bytes)) = some (some (.string ⟨#[]⟩), 1, 16) := by kernel_rfl

def cutAt (l : Bs) (q : List Bs) (j k : Nat) : Prop := (k ≤ l.length → cutB (l.take k) = q ++ [(l.drop j).take (k - j)]) ∧ (l.length < k → q = cutB l)
theorem cutAt_zero (l : Bs) : cutAt l [] 0 0 := ⟨fun _ => by simp [cutB], fun h => by omega⟩
theorem take_piece (s : ByteArray) {j k : Nat} (hj : j ≤ k) (hk : k < s.size) : (s.data.toList.drop j).take (k + 1 - j) = (s.data.toList.drop j).take (k - j) ++ [s[k]] := by
  have e : k + 1 - j = (k - j) + 1 := by omega
  have hl : k - j < (s.data.toList.drop j).length := by simp; omega
  rw [e, List.take_succ_eq_append_getElem hl]
  congr 2
  rw [List.getElem_drop]
  have : j + (k - j) = k := by omega
  simp [this]
  rfl
theorem cutAt_end {l : Bs} {q : List Bs} {j : Nat} (h : cutAt l q j l.length) : cutAt l (q ++ [(l.drop j).take (l.length - j)]) (l.length + 1) (l.length + 1) := by
  refine ⟨fun h => by omega, fun _ => ?_⟩
  rw [← h.1 (Nat.le_refl _), List.take_length]
theorem cutAt_hit {s : ByteArray} {q : List Bs} {j k : Nat} (h : cutAt s.data.toList q j k) (hk : k < s.size) (hj : j ≤ k) (hc : s[k] = 47) : cutAt s.data.toList (q ++ [(s.data.toList.drop j).take (k - j)]) (k + 1) (k + 1) := by
  have hl : s.data.toList.length = s.size := (Lib.size_eq s).symm
  refine ⟨fun _ => ?_, fun h' => by omega⟩
  rw [small_take_snoc s k hk, cutB_snoc _ _ _ _ (h.1 (by omega)), if_pos hc]
  simp
theorem cutAt_miss {s : ByteArray} {q : List Bs} {j k : Nat} (h : cutAt s.data.toList q j k) (hk : k < s.size) (hj : j ≤ k) (hc : s[k] ≠ 47) : cutAt s.data.toList q j (k + 1) := by
  have hl : s.data.toList.length = s.size := (Lib.size_eq s).symm
  refine ⟨fun _ => ?_, fun h' => by omega⟩
  rw [small_take_snoc s k hk, cutB_snoc _ _ _ _ (h.1 (by omega)), if_neg hc, take_piece s hj hk]

set_option maxRecDepth 100000 in
set_option maxHeartbeats 1600000 in
theorem l3Cut_any (s : ByteArray) (w : World) (hs : s.size ≤ 2097152) :
    Calls Tryz.prog 88 #[.string s, .int .u8 47] w fun e w' => ∃ v, e = .returned v ∧ OwnS w.heap.size w' v (cutB s.data.toList) ∧ Below w.heap.size w w' := by
  obtain ⟨i1, ki, kz0, kz1, kz2⟩ := info_parts infoS
  have hl : s.data.toList.length = s.size := (Lib.size_eq s).symm
  have HL := hide hl
  clear hl
  have O1 := hide (World.ownsRow_made (base := w.heap.size) (e := 9) (size := 1) w #[] 0 (Nat.le_refl _) (Nat.zero_le _) rfl)
  go_enter Tryz.func88, Tryz.ntmps88
  go_wp2_with fail
  go_loopw [5, 6, 7] (fun v f i wr => ∃ (k j : Nat) (q : List Bs), k ≤ s.size + 1 ∧ j ≤ k ∧ q.length ≤ k ∧ i = .int .i64 k ∧ f = .int .i64 j ∧ Hid (OwnS w.heap.size wr v q) ∧ Hid (cutAt s.data.toList q j k) ∧ Hid (Below w.heap.size w wr)) (fun _ _ i _ => s.size + 1 - (intOf i).toNat)
  case atStart => exact ⟨0, 0, [], by omega, by omega, by simp, rfl, rfl, hide O1.out, hide (cutAt_zero _), hide (below_alloc _ _)⟩
  case round =>
    obtain ⟨k, j, q, hk, hj, hq, rfl, rfl, HO, HC, HB⟩ := hrel
    obtain ⟨va, vc, rfl⟩ := HO.out.shape
    have hm1 : q.length + 1 ≤ maxLen := by unfold maxLen; omega
    have hm2 : (q.length + 1) * 16 ≤ 140737488355328 := by omega
    have hsz := HB.out.size
    have HX := hide (show s.extract j k = str ((s.data.toList.drop j).take (k - j)) from Lib.extract_eq s j k)
    by_cases hlt : k < s.size
    · by_cases hc : (s[k].toNat : Int) = 47
      · have hne : ((k : Int) == (s.size : Int)) = false := by simp; omega
        have HN := hide (cutAt_hit HC.out hlt hj (by apply UInt8.toNat_inj.1; show _ = 47; omega))
        go_wp2_with (at_builtin; refine wpList_append_one rfl (.tmp 26) (.tmp 31) 102 rfl w.heap.size 9 i1 (.string ⟨#[]⟩) 1 16 Tryz.underlying102 ki kz0 kz1 kz2 rfl (by decide) _ _ _ rfl HO.out rfl rfl (by intro u hu; simp at hu; subst hu; rfl) hm1 hm2 hsz ?_; intro v' w2 hown2 hkept; have O2 := hide hown2; have K2 := hide hkept; clear hown2 hkept)
        go_roundw
        case rel => exact ⟨k + 1, k + 1, q ++ [(s.data.toList.drop j).take (k - j)], by omega, by omega, by simp; omega, by go_num, by go_num, hide (OwnS.snoc O2.out HX.out), HN, hide (Kept.below_own HB.out hsz HO.out K2.out)⟩
        case measure => simp [intOf]; omega
      · have hne : ((k : Int) == (s.size : Int)) = false := by simp; omega
        have hne2 : ((s[k].toNat : Int) == 47) = false := by simp; omega
        have HN := hide (cutAt_miss HC.out hlt hj (by intro e; apply hc; rw [e]; rfl))
        go_wp2
        go_roundw
        case rel => exact ⟨k + 1, j, q, by omega, by omega, by omega, by go_num, rfl, HO, HN, HB⟩
        case measure => simp [intOf]; omega
    · by_cases hk2 : k = s.size
      · subst hk2
        have HN := hide (show cutAt s.data.toList (q ++ [(s.data.toList.drop j).take (s.size - j)]) (s.size + 1) (s.size + 1) by have h := HC.out; rw [← HL.out] at h ⊢; exact cutAt_end h)
        go_wp2_with (at_builtin; refine wpList_append_one rfl (.tmp 26) (.tmp 31) 102 rfl w.heap.size 9 i1 (.string ⟨#[]⟩) 1 16 Tryz.underlying102 ki kz0 kz1 kz2 rfl (by decide) _ _ _ rfl HO.out rfl rfl (by intro u hu; simp at hu; subst hu; rfl) hm1 hm2 hsz ?_; intro v' w2 hown2 hkept; have O2 := hide hown2; have K2 := hide hkept; clear hown2 hkept)
        go_roundw
        case rel => exact ⟨s.size + 1, s.size + 1, q ++ [(s.data.toList.drop j).take (s.size - j)], by omega, by omega, by simp; omega, by go_num, by go_num, hide (OwnS.snoc O2.out HX.out), HN, hide (Kept.below_own HB.out hsz HO.out K2.out)⟩
        case measure => simp [intOf]
      · have hk3 : ¬ (k : Int) ≤ (s.size : Int) := by omega
        have HN := hide (HC.out.2 (by rw [HL.out]; omega))
        go_wp2
        go_ret
        exact ⟨_, rfl, by rw [← HN.out]; exact HO.out, HB.out⟩

end Go.Proofs.YtejfcapocikjmaaGreatDoor

namespace Go.Proofs.YtejfcapocikjmaaGreatDoor
open Go.RowKit
set_option linter.unusedVariables false

theorem str_append (a b : Bs) : str a ++ str b = str (a ++ b) := by
  apply ByteArray.ext
  simp [str]
theorem take_snoc_at {α : Type} {ps : List α} {k : Nat} {p : α} (h : ps[k]? = some p) : ps.take (k + 1) = ps.take k ++ [p] := by
  obtain ⟨hk, e⟩ := List.getElem?_eq_some_iff.1 h
  rw [List.take_succ_eq_append_getElem hk, e]
theorem join_step {ps : List Bs} {k : Nat} {p : Bs} (h : ps[k]? = some p) : joinB (ps.take (k + 1)) = joinB (ps.take k) ++ 47 :: p := by
  rw [take_snoc_at h, join_append]
  simp [joinB]
theorem join_str (x p : Bs) : str x ++ (⟨#[47]⟩ : ByteArray) ++ str p = str (x ++ 47 :: p) := by
  have e : (⟨#[47]⟩ : ByteArray) = str [47] := rfl
  rw [e, str_append, str_append]
  simp
theorem join_take_le (ps : List Bs) (k : Nat) : (joinB (ps.take k)).length ≤ (joinB ps).length := by
  conv => rhs; rw [← List.take_append_drop k ps, join_append]
  simp

set_option maxRecDepth 100000 in
set_option maxHeartbeats 800000 in
theorem l3Join_any (a : Option Addr) (cap : Nat) (ps : List Bs) (w : World) (h : ReadsS w a ps) (hn : ps.length ≤ 4194304) (hj : (joinB ps).length ≤ 4194304) (n : Nat) (hpn : n = ps.length) :
    Calls Tryz.prog 89 #[.slice a n cap] w fun e w' => e = .returned (.string (str (joinB ps))) ∧ w' = w := by
  have HR := hide h
  clear h
  subst hpn
  go_enter Tryz.func89, Tryz.ntmps89
  go_wp2
  go_loop [3, 4] (fun o i => ∃ (k : Nat) (x : Bs), k ≤ ps.length ∧ i = .int .i64 k ∧ o = .string (str x) ∧ Hid (x = joinB (ps.take k))) (fun _ i => ps.length - (intOf i).toNat)
  case atStart => exact ⟨0, [], Nat.zero_le _, rfl, rfl, hide rfl⟩
  case round =>
    obtain ⟨k, x, hk, rfl, rfl, HX⟩ := hrel
    by_cases hlt : k < ps.length
    · obtain ⟨b, off, p, rfl, hb, hp, hck⟩ := HR.out.at hlt
      have HE := hide (join_step hp)
      have hz := join_take_le ps (k + 1)
      rw [HE.out, ← HX.out] at hz
      simp only [List.length_append, List.length_cons] at hz
      have hz1 : ¬ 9223372036854775807 < (str x).size + 1 := by rw [str_size]; omega
      have hz2 : ¬ 9223372036854775807 < (str x).size + 1 + (str p).size := by rw [str_size, str_size]; omega
      have HP := hide hp
      clear hp
      go_wp2
      go_round
      case rel => exact ⟨k + 1, x ++ 47 :: p, by omega, by go_num, by rw [join_str], hide (by rw [HE.out, HX.out])⟩
      case measure => simp [intOf]; omega
    · have HE := hide (show ps.take k = ps from List.take_of_length_le (by omega))
      go_wp2
      go_ret
      exact ⟨ret_str (by rw [HX.out, HE.out]), rfl⟩

theorem head_tail (s : ByteArray) (h : 0 < s.size) : s.data.toList = s[0] :: s.data.toList.tail := by
  have hl : 0 < s.data.toList.length := by rw [← Lib.size_eq]; exact h
  cases e : s.data.toList with
  | nil => rw [e] at hl; simp at hl
  | cons c r =>
    have : s[0] = s.data.toList[0] := rfl
    simp [this, e]
theorem tail_data (s : ByteArray) : (s.extract 1 s.size).data.toList = s.data.toList.tail := by
  rw [Lib.extract_data, List.drop_one, List.take_of_length_le (by rw [List.length_tail, ← Lib.size_eq]; exact Nat.le_refl _)]
theorem extract_le (s : ByteArray) (a b : Nat) : (s.extract a b).size ≤ s.size := by
  rw [Lib.size_eq, Lib.extract_data, Lib.size_eq s]
  simp
  omega
theorem isEmpty_no {s : ByteArray} (h : 0 < s.size) : s.toList.isEmpty = false := by
  rw [ByteArray.toList_eq, head_tail s h]; rfl
theorem faultP_no {s : ByteArray} (h : 0 < s.size) (hc : s[0] ≠ 47) : faultP s.data.toList = 5 := by
  rw [head_tail s h]; simp [faultP, hc]
theorem faultP_yes {s : ByteArray} (h : 0 < s.size) (hc : s[0] = 47) : faultP s.data.toList = faultN (cutB s.data.toList.tail) := by
  conv => lhs; rw [head_tail s h]
  simp [faultP, hc]
theorem faultN_text {ns : List Bs} {k : Nat} {p : Bs} (h : ns[k]? = some p) (hp : plain p = false) : faultN ns = 5 := by
  have : ns.all plain = false := by rw [List.all_eq_false]; exact ⟨p, List.mem_of_getElem? h, by simp [hp]⟩
  simp [faultN, this]
theorem all_snoc {f : Bs → Bool} {ns : List Bs} {k : Nat} {p : Bs} (h : ns[k]? = some p) (ha : (ns.take k).all f = true) (hp : f p = true) : (ns.take (k + 1)).all f = true := by
  rw [take_snoc_at h]; simp [ha, hp]
theorem faultN_long {ns : List Bs} {k : Nat} {p : Bs} (ha : ns.all plain = true) (h : ns[k]? = some p) (hp : 4 < p.length) : faultN ns = 2 := by
  have : ns.all (fun n => decide (n.length ≤ 4)) = false := by rw [List.all_eq_false]; exact ⟨p, List.mem_of_getElem? h, by simp; omega⟩
  simp [faultN, ha, this]
theorem faultN_many {ns : List Bs} (ha : ns.all plain = true) (h : 3 < ns.length) : faultN ns = 2 := by
  have : ¬ ns.length ≤ 3 := by omega
  simp [faultN, ha, this]
theorem faultN_ok {ns : List Bs} (ha : ns.all plain = true) (hb : ns.all (fun n => decide (n.length ≤ 4)) = true) (h : ns.length ≤ 3) : faultN ns = 0 := by
  simp only [faultN, ha, hb, h, decide_true, Bool.and_self, if_true]
theorem all_end {f : Bs → Bool} {ns : List Bs} {k : Nat} (hk : ns.length ≤ k) (ha : (ns.take k).all f = true) : ns.all f = true := by
  rwa [List.take_of_length_le hk] at ha

set_option maxRecDepth 100000 in
set_option maxHeartbeats 1600000 in
theorem l3Fault_any (s : ByteArray) (w : World) (hs : s.size ≤ 2097152) :
    Calls Tryz.prog 76 #[.string s] w fun e w' => e = .returned (.int .i64 (faultP s.data.toList)) ∧ Below w.heap.size w w' := by
  by_cases h0 : 0 < s.size
  · have he := isEmpty_no h0
    by_cases hc : (s[0].toNat : Int) = 47
    · have HF := hide (faultP_yes h0 (by apply UInt8.toNat_inj.1; show _ = 47; omega))
      have HT := hide (tail_data s)
      have hel := extract_le s 1 s.size
      have hcl := cutB_length s.data.toList.tail
      have hel2 : s.data.toList.tail.length ≤ s.size := by rw [List.length_tail, ← Lib.size_eq]; omega
      have HEa := hide (cutB_each s.data.toList.tail)
      generalize hns : cutB s.data.toList.tail = ns at *
      have HN := hide hns
      clear hns
      have h1 : (1 : Int) ≤ (s.size : Int) := by omega
      go_enter Tryz.func76, Tryz.ntmps76
      go_wp2_with fail
      refine (l3Cut_any _ _ (by omega)).mono ?_
      rintro e w1 ⟨v, rfl, hO, hb1⟩
      rw [HT.out, HN.out] at hO
      obtain ⟨va, vc, rfl⟩ := hO.shape
      have HR := hide hO.reads
      have HB := hide hb1
      clear hO hb1
      go_wp2_with fail
      go_loop [4] (fun i => ∃ k : Nat, k ≤ ns.length ∧ i = .int .i64 k ∧ Hid ((ns.take k).all plain = true)) (fun i => ns.length - (intOf i).toNat)
      case atStart => exact ⟨0, Nat.zero_le _, rfl, hide (by simp)⟩
      case round =>
        obtain ⟨k, hk, rfl, HA⟩ := hrel
        by_cases hlt : k < ns.length
        · obtain ⟨b, off, p, rfl, hb, hp, hck⟩ := HR.out.at hlt
          have hpz : p.length ≤ 2097152 := by have := HEa.out p (List.mem_of_getElem? hp); omega
          have HP := hide hp
          clear hp
          cases hpl : plain p
          · have HZ := hide (faultN_text HP.out hpl)
            have HPL := hide hpl
            clear hpl
            go_wp2_with (go_at_call 101; refine (l3Plain_any _ _ (by rw [str_size]; omega)).mono ?_; rintro e w' ⟨rfl, rfl⟩; rw [str_data, HPL.out])
            go_ret
            exact ⟨ret_int (by rw [HF.out, HZ.out]), HB.out⟩
          · have HZ := hide (all_snoc HP.out HA.out hpl)
            have HPL := hide hpl
            clear hpl
            go_wp2_with (go_at_call 101; refine (l3Plain_any _ _ (by rw [str_size]; omega)).mono ?_; rintro e w' ⟨rfl, rfl⟩; rw [str_data, HPL.out])
            go_round
            case rel => exact ⟨k + 1, by omega, by go_num, HZ⟩
            case measure => simp [intOf]; omega
        · have HAll := hide (all_end (by omega) HA.out)
          clear HA
          go_wp2_with fail
          go_loop [5] (fun i => ∃ k : Nat, k ≤ ns.length ∧ i = .int .i64 k ∧ Hid ((ns.take k).all (fun n => decide (n.length ≤ 4)) = true)) (fun i => ns.length - (intOf i).toNat)
          case atStart => exact ⟨0, Nat.zero_le _, rfl, hide (by simp)⟩
          case round =>
            obtain ⟨m, hm, rfl, HA⟩ := hrel
            by_cases hlt2 : m < ns.length
            · obtain ⟨b, off, p, rfl, hb, hp, hck⟩ := HR.out.at hlt2
              have HP := hide hp
              clear hp
              by_cases hl4 : 4 < p.length
              · have HZ := hide (faultN_long HAll.out HP.out hl4)
                have hl5 : (4 : Int) < ((str p).size : Int) := by rw [str_size]; omega
                go_wp2_with fail
                go_ret
                exact ⟨ret_int (by rw [HF.out, HZ.out]), HB.out⟩
              · have HZ := hide (all_snoc HP.out HA.out (by simp; omega))
                have hl5 : ¬ (4 : Int) < ((str p).size : Int) := by rw [str_size]; omega
                go_wp2_with fail
                go_round
                case rel => exact ⟨m + 1, by omega, by go_num, HZ⟩
                case measure => simp [intOf]; omega
            · have HAll2 := hide (all_end (by omega) HA.out)
              clear HA
              by_cases hl3 : 3 < ns.length
              · have HZ := hide (faultN_many HAll.out hl3)
                have hl5 : (3 : Int) < (ns.length : Int) := by omega
                go_wp2_with fail
                go_ret
                exact ⟨ret_int (by rw [HF.out, HZ.out]), HB.out⟩
              · have HZ := hide (faultN_ok HAll.out HAll2.out (by omega))
                have hl5 : ¬ (3 : Int) < (ns.length : Int) := by omega
                go_wp2_with fail
                go_ret
                exact ⟨ret_int (by rw [HF.out, HZ.out]), HB.out⟩
    · have HF := hide (faultP_no h0 (by intro e; apply hc; rw [e]; rfl))
      have hc2 : ((s[0].toNat : Int) != 47) = true := by simp; omega
      go_enter Tryz.func76, Tryz.ntmps76
      go_wp2
      go_ret
      exact ⟨ret_int (by rw [HF.out]), Below.refl _ _⟩
  · have he : s = ⟨#[]⟩ := by
      have := Lib.size_eq s
      apply ByteArray.ext
      apply Array.toList_inj.1
      exact List.length_eq_zero_iff.1 (by omega)
    subst he
    go_enter Tryz.func76, Tryz.ntmps76
    go_wp2
    go_ret
    exact ⟨rfl, Below.refl _ _⟩

end Go.Proofs.YtejfcapocikjmaaGreatDoor

