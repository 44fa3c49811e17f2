/-
  Texts put together: FetR.
-/
import Derived.Test.YtfamiehfpmjljaaGreatDoorKFetche9
import Derived.Test.YtfamiehfpmjljaaGreatDoorKFetche10
namespace Go.Proofs.YtfamiehfpmjljaaGreatDoor
open Go.RowKit Go.Maps
set_option linter.unusedVariables false
theorem up_ins {D : Nat → Int} {P : Nat → List Int} {n m : Nat} (hR : RightC D P n) (hm : m ≤ n) {d : Int} {zs : List Int} (hlow : ∀ i, i < m → D i < d) (hhigh : m < n → ¬ D m < d) (hd : ∀ i, i < n → D i ≠ d) : up (lst D P n ++ [(d, zs)]) = lst (ins D m d) (ins P m zs) (n + 1) := by
  have hpw := pairwise_lst (D := ins D m d) (P := ins P m zs) (n := n + 1) (ins_up hR hm hlow hhigh hd)
  have hip := ins_perm D P hm d zs
  have hnd : ((lst D P n ++ [(d, zs)]).map Prod.fst).Nodup := ((hip.map Prod.fst).nodup_iff).1 (List.pairwise_map.2 (hpw.imp (fun {p q} h e => by omega)))
  exact up_unique ((up_perm hnd).trans hip.symm) (up_up hnd) hpw
set_option maxRecDepth 100000 in
set_option maxHeartbeats 6400000 in
theorem implHearFetch_lost (wa : Option Addr) (wk : Nat) (W : List Wn) (fa : Option Addr) (fc : Nat) (F : List Int) (ca : Option Addr) (cc n : Nat) (D : Nat → Int) (P : Nat → List Int) (d : Int) (da : Option Addr) (dc : Nat) (zs : List Int) (w : World) (h : RdF w wa W fa F ca D P n) (hn : n ≤ 1048576) (hP : SmallP P n) (hWl : W.length ≤ 1048576) (hFl : F.length ≤ 1048576) (hr : Reads .u8 w da zs) (hu : U8 zs) (hl : zs.length ≤ 1048576) (hO : oneFault d zs ≠ 0) (q : Int) (W' : List Wn) (F' : List Int) (D' : Nat → Int) (P' : Nat → List Int) (n' : Nat) (hL : ∀ u : World, Below w.heap.size w u → Calls Tryz.prog 16 #[fetV wa W.length wk fa F.length fc ca n cc, .int .i64 d] u (ResF q W' F' D' P' n' u)) :
    Calls Tryz.prog 11 #[fetV wa W.length wk fa F.length fc ca n cc, .int .i64 d, .slice da zs.length dc] w (ResF q W' F' D' P' n' w) := by
  have B0 := hide (below_next (below_next (below_alloc w (.cells #[.slice wa W.length wk, .slice fa F.length fc, .slice ca n cc] 28)) (below_alloc _ (.cells #[.int .i64 0, .slice none 0 0, .slice none 0 0, .slice none 0 0] 32))) (below_alloc _ (.cells #[.int .i64 d, .slice da zs.length dc] 70)))
  have X0 := hide (((Bx3.new w (.slice wa W.length wk) (.slice fa F.length fc) (.slice ca n cc) 28).below (below_alloc _ (.cells #[.int .i64 0, .slice none 0 0, .slice none 0 0, .slice none 0 0] 32))).below (below_alloc _ (.cells #[.int .i64 d, .slice da zs.length dc] 70)))
  have R0 := hide ((Bx4.new (w.alloc (.cells #[.slice wa W.length wk, .slice fa F.length fc, .slice ca n cc] 28)) (.int .i64 0) (.slice none 0 0) (.slice none 0 0) (.slice none 0 0) 32).below (below_alloc _ (.cells #[.int .i64 d, .slice da zs.length dc] 70)))
  have hs : (w.alloc (.cells #[.slice wa W.length wk, .slice fa F.length fc, .slice ca n cc] 28)).heap.size = w.heap.size + 1 := by simp
  rw [hs] at R0
  clear hs
  have C0 := hide (Two.new ((w.alloc (.cells #[.slice wa W.length wk, .slice fa F.length fc, .slice ca n cc] 28)).alloc (.cells #[.int .i64 0, .slice none 0 0, .slice none 0 0, .slice none 0 0] 32)) (.int .i64 d) (.slice da zs.length dc) 70)
  have hs : ((w.alloc (.cells #[.slice wa W.length wk, .slice fa F.length fc, .slice ca n cc] 28)).alloc (.cells #[.int .i64 0, .slice none 0 0, .slice none 0 0, .slice none 0 0] 32)).heap.size = w.heap.size + 2 := by simp
  rw [hs] at C0
  clear hs
  have hw0 : (((w.alloc (.cells #[.slice wa W.length wk, .slice fa F.length fc, .slice ca n cc] 28)).alloc (.cells #[.int .i64 0, .slice none 0 0, .slice none 0 0, .slice none 0 0] 32)).alloc (.cells #[.int .i64 d, .slice da zs.length dc] 70)).heap.size = w.heap.size + 3 := by simp
  have HON := hide (implOne_any d da dc zs _ (hr.below B0.out) hu hl)
  have hz0 : (oneFault d zs != 0) = true := by simpa using hO
  have HLF := hide hL
  generalize oneFault d zs = A at *
  clear h hP hr hu hL hO
  unfold fetV at HLF ⊢
  go_enter Tryz.func11, Tryz.ntmps11
  obtain ⟨⟨t0, t1, t2⟩, -, -, -⟩ := X0.out
  obtain ⟨z0, z1⟩ := C0.out
  go_wp2_with fail
  clear t0 t1 t2 z0 z1
  generalize ((w.alloc (.cells #[.slice wa W.length wk, .slice fa F.length fc, .slice ca n cc] 28)).alloc (.cells #[.int .i64 0, .slice none 0 0, .slice none 0 0, .slice none 0 0] 32)).alloc (.cells #[.int .i64 d, .slice da zs.length dc] 70) = W0 at *
  refine HON.out.mono ?_
  rintro e w1 ⟨rfl, hb1⟩
  have hz1 := hb1.size
  have B1 := hide (below_next B0.out hb1)
  have X1 := hide (X0.out.below hb1)
  have R1 := hide (R0.out.below hb1)
  have C1 := hide (C0.out.below hb1)
  clear hb1 X0 R0 B0 HON C0
  obtain ⟨⟨t0, t1, t2⟩, -, -, -⟩ := X1.out
  go_wp2_with fail
  clear t0 t1 t2
  refine (HLF.out w1 B1.out).mono ?_
  rintro e w2 ⟨xa, xc, va, vc, ya, yc, rfl, hOW, hOF, hGC, hb2⟩
  have OW2 := hide hOW
  have OF2 := hide hOF
  have GC2 := hide hGC
  have B2 := hide (below_next B1.out hb2)
  obtain ⟨⟨m0, m1, m2, m3⟩, k0, k1, k2, k3⟩ := R1.out.below hb2
  clear hOW hOF hGC hb2 HLF
  go_wp2_with fail
  exact bodyPost_ret (v := .agg #[.int .i64 q, .slice xa W'.length xc, .slice va F'.length vc, .slice ya n' yc]) (by simp [results, Tryz.results11, go_sem, m0, m1, m2, m3]) rfl (ResF.box (B := w1.heap.size) OW2.out OF2.out GC2.out B2.out (by omega) (by omega))
set_option maxRecDepth 100000 in
set_option maxHeartbeats 6400000 in
theorem implHearFetch_bad (wa : Option Addr) (wk : Nat) (W : List Wn) (fa : Option Addr) (fc : Nat) (F : List Int) (ca : Option Addr) (cc n : Nat) (D : Nat → Int) (P : Nat → List Int) (d : Int) (da : Option Addr) (dc : Nat) (zs : List Int) (w : World) (h : RdF w wa W fa F ca D P n) (hn : n ≤ 1048576) (hP : SmallP P n) (hWl : W.length ≤ 1048576) (hFl : F.length ≤ 1048576) (hr : Reads .u8 w da zs) (hu : U8 zs) (hl : zs.length ≤ 1048576) (hO : oneFault d zs = 0) (hz : fetFault W F D P n ≠ 0) :
    Calls Tryz.prog 11 #[fetV wa W.length wk fa F.length fc ca n cc, .int .i64 d, .slice da zs.length dc] w (ResF (fetFault W F D P n) [] [] D P 0 w) := by
  have B0 := hide (below_next (below_next (below_alloc w (.cells #[.slice wa W.length wk, .slice fa F.length fc, .slice ca n cc] 28)) (below_alloc _ (.cells #[.int .i64 0, .slice none 0 0, .slice none 0 0, .slice none 0 0] 32))) (below_alloc _ (.cells #[.int .i64 d, .slice da zs.length dc] 70)))
  have X0 := hide (((Bx3.new w (.slice wa W.length wk) (.slice fa F.length fc) (.slice ca n cc) 28).below (below_alloc _ (.cells #[.int .i64 0, .slice none 0 0, .slice none 0 0, .slice none 0 0] 32))).below (below_alloc _ (.cells #[.int .i64 d, .slice da zs.length dc] 70)))
  have R0 := hide ((Bx4.new (w.alloc (.cells #[.slice wa W.length wk, .slice fa F.length fc, .slice ca n cc] 28)) (.int .i64 0) (.slice none 0 0) (.slice none 0 0) (.slice none 0 0) 32).below (below_alloc _ (.cells #[.int .i64 d, .slice da zs.length dc] 70)))
  have hs : (w.alloc (.cells #[.slice wa W.length wk, .slice fa F.length fc, .slice ca n cc] 28)).heap.size = w.heap.size + 1 := by simp
  rw [hs] at R0
  clear hs
  have C0 := hide (Two.new ((w.alloc (.cells #[.slice wa W.length wk, .slice fa F.length fc, .slice ca n cc] 28)).alloc (.cells #[.int .i64 0, .slice none 0 0, .slice none 0 0, .slice none 0 0] 32)) (.int .i64 d) (.slice da zs.length dc) 70)
  have hs : ((w.alloc (.cells #[.slice wa W.length wk, .slice fa F.length fc, .slice ca n cc] 28)).alloc (.cells #[.int .i64 0, .slice none 0 0, .slice none 0 0, .slice none 0 0] 32)).heap.size = w.heap.size + 2 := by simp
  rw [hs] at C0
  clear hs
  have hw0 : (((w.alloc (.cells #[.slice wa W.length wk, .slice fa F.length fc, .slice ca n cc] 28)).alloc (.cells #[.int .i64 0, .slice none 0 0, .slice none 0 0, .slice none 0 0] 32)).alloc (.cells #[.int .i64 d, .slice da zs.length dc] 70)).heap.size = w.heap.size + 3 := by simp
  have HON := hide (implOne_any d da dc zs _ (hr.below B0.out) hu hl)
  rw [hO] at HON
  have HFF := hide (fun (u : World) (hb : Below w.heap.size w u) => implFetchFault_any wa wk W fa fc F ca cc n D P u (h.below hb) hn hP hWl hFl)
  clear h hP hr hu hO
  unfold fetV at HFF ⊢
  have hz9 : (fetFault W F D P n != 0) = true := by simpa using hz
  generalize fetFault W F D P n = A at *
  clear hz
  go_enter Tryz.func11, Tryz.ntmps11
  obtain ⟨⟨t0, t1, t2⟩, -, -, -⟩ := X0.out
  obtain ⟨z0, z1⟩ := C0.out
  go_wp2_with fail
  clear t0 t1 t2 z0 z1
  generalize ((w.alloc (.cells #[.slice wa W.length wk, .slice fa F.length fc, .slice ca n cc] 28)).alloc (.cells #[.int .i64 0, .slice none 0 0, .slice none 0 0, .slice none 0 0] 32)).alloc (.cells #[.int .i64 d, .slice da zs.length dc] 70) = W0 at *
  refine HON.out.mono ?_
  rintro e w1 ⟨rfl, hb1⟩
  have hz1 := hb1.size
  have B1 := hide (below_next B0.out hb1)
  have X1 := hide (X0.out.below hb1)
  have R1 := hide (R0.out.below hb1)
  have C1 := hide (C0.out.below hb1)
  clear hb1 X0 R0 B0 HON C0
  obtain ⟨⟨t0, t1, t2⟩, -, -, -⟩ := X1.out
  go_wp2_with fail
  clear t0 t1 t2
  refine (HFF.out w1 B1.out).mono ?_
  rintro e w2 ⟨rfl, hb2⟩
  have hz2 := hb2.size
  have B2 := hide (below_next B1.out hb2)
  have X2 := hide (X1.out.below hb2)
  have R2 := hide (R1.out.below hb2)
  have C2 := hide (C1.out.below hb2)
  clear hb2 X1 R1 C1 HFF
  obtain ⟨⟨m0, m1, m2, m3⟩, k0, k1, k2, k3⟩ := R2.out
  go_wp2_with fail
  have hk := Kept.fourF w2 (w.heap.size + 1) (.int .i64 A) (.slice none 0 0) (.slice none 0 0) (.slice none 0 0)
  exact bodyPost_ret (v := .agg #[.int .i64 A, .slice none 0 0, .slice none 0 0, .slice none 0 0]) (by simp [results, Tryz.results11, go_sem, m0, m1, m2, m3]) rfl (ResF.bad (B2.out.trans (hk.below (B := w.heap.size) B2.out.size (fun k hk e => by omega))))
set_option maxRecDepth 100000 in
set_option maxHeartbeats 6400000 in
theorem implHearFetch_none (wa : Option Addr) (wk : Nat) (W : List Wn) (fa : Option Addr) (fc : Nat) (F : List Int) (ca : Option Addr) (cc n : Nat) (D : Nat → Int) (P : Nat → List Int) (d : Int) (da : Option Addr) (dc : Nat) (zs : List Int) (w : World) (a0 a1 : Addr) (hg : Ge w a0 a1) (h : RdF w wa W fa F ca D P n) (hn : n ≤ 1048576) (hP : SmallP P n) (hWl : W.length ≤ 1048576) (hFl : F.length ≤ 1048576) (hr : Reads .u8 w da zs) (hu : U8 zs) (hl : zs.length ≤ 1048576) (hO : oneFault d zs = 0) (hz : fetFault W F D P n = 0) (hR : RightC D P n) (hf : ∀ j, j < W.length → (W.getD j (0, 0)).1 ≠ d) :
    Calls Tryz.prog 11 #[fetV wa W.length wk fa F.length fc ca n cc, .int .i64 d, .slice da zs.length dc] w (ResF 4 [] [] D P 0 w) := by
  have B0 := hide (below_next (below_next (below_alloc w (.cells #[.slice wa W.length wk, .slice fa F.length fc, .slice ca n cc] 28)) (below_alloc _ (.cells #[.int .i64 0, .slice none 0 0, .slice none 0 0, .slice none 0 0] 32))) (below_alloc _ (.cells #[.int .i64 d, .slice da zs.length dc] 70)))
  have X0 := hide (((Bx3.new w (.slice wa W.length wk) (.slice fa F.length fc) (.slice ca n cc) 28).below (below_alloc _ (.cells #[.int .i64 0, .slice none 0 0, .slice none 0 0, .slice none 0 0] 32))).below (below_alloc _ (.cells #[.int .i64 d, .slice da zs.length dc] 70)))
  have R0 := hide ((Bx4.new (w.alloc (.cells #[.slice wa W.length wk, .slice fa F.length fc, .slice ca n cc] 28)) (.int .i64 0) (.slice none 0 0) (.slice none 0 0) (.slice none 0 0) 32).below (below_alloc _ (.cells #[.int .i64 d, .slice da zs.length dc] 70)))
  have hs : (w.alloc (.cells #[.slice wa W.length wk, .slice fa F.length fc, .slice ca n cc] 28)).heap.size = w.heap.size + 1 := by simp
  rw [hs] at R0
  clear hs
  have C0 := hide (Two.new ((w.alloc (.cells #[.slice wa W.length wk, .slice fa F.length fc, .slice ca n cc] 28)).alloc (.cells #[.int .i64 0, .slice none 0 0, .slice none 0 0, .slice none 0 0] 32)) (.int .i64 d) (.slice da zs.length dc) 70)
  have hs : ((w.alloc (.cells #[.slice wa W.length wk, .slice fa F.length fc, .slice ca n cc] 28)).alloc (.cells #[.int .i64 0, .slice none 0 0, .slice none 0 0, .slice none 0 0] 32)).heap.size = w.heap.size + 2 := by simp
  rw [hs] at C0
  clear hs
  have hw0 : (((w.alloc (.cells #[.slice wa W.length wk, .slice fa F.length fc, .slice ca n cc] 28)).alloc (.cells #[.int .i64 0, .slice none 0 0, .slice none 0 0, .slice none 0 0] 32)).alloc (.cells #[.int .i64 d, .slice da zs.length dc] 70)).heap.size = w.heap.size + 3 := by simp
  have HON := hide (implOne_any d da dc zs _ (hr.below B0.out) hu hl)
  rw [hO] at HON
  have HFF := hide (fun (u : World) (hb : Below w.heap.size w u) => implFetchFault_any wa wk W fa fc F ca cc n D P u (h.below hb) hn hP hWl hFl)
  rw [hz] at HFF
  have HFO := hide (fun (u : World) (hb : Below w.heap.size w u) => fetchingOf_any wa wk W fa fc F ca cc n D P u (h.below hb) hR hWl hFl)
  have HRt := hide hR
  have HG := hide hg
  have HF1 := hide hf
  clear h hP hr hu hO hz hR hg hf
  unfold fetV at HFF HFO ⊢
  go_enter Tryz.func11, Tryz.ntmps11
  obtain ⟨⟨t0, t1, t2⟩, -, -, -⟩ := X0.out
  obtain ⟨z0, z1⟩ := C0.out
  go_wp2_with fail
  clear t0 t1 t2 z0 z1
  generalize ((w.alloc (.cells #[.slice wa W.length wk, .slice fa F.length fc, .slice ca n cc] 28)).alloc (.cells #[.int .i64 0, .slice none 0 0, .slice none 0 0, .slice none 0 0] 32)).alloc (.cells #[.int .i64 d, .slice da zs.length dc] 70) = W0 at *
  refine HON.out.mono ?_
  rintro e w1 ⟨rfl, hb1⟩
  have hz1 := hb1.size
  have B1 := hide (below_next B0.out hb1)
  have X1 := hide (X0.out.below hb1)
  have R1 := hide (R0.out.below hb1)
  have C1 := hide (C0.out.below hb1)
  clear hb1 X0 R0 B0 HON C0
  obtain ⟨⟨t0, t1, t2⟩, -, -, -⟩ := X1.out
  go_wp2_with fail
  clear t0 t1 t2
  refine (HFF.out w1 B1.out).mono ?_
  rintro e w2 ⟨rfl, hb2⟩
  have hz2 := hb2.size
  have B2 := hide (below_next B1.out hb2)
  have X2 := hide (X1.out.below hb2)
  have R2 := hide (R1.out.below hb2)
  have C2 := hide (C1.out.below hb2)
  clear hb2 X1 R1 C1 HFF
  obtain ⟨⟨t0, t1, t2⟩, -, -, -⟩ := X2.out
  go_wp2_with fail
  clear t0 t1 t2
  refine (HFO.out w2 B2.out).mono ?_
  rintro e w3 ⟨fb, rfl, hO3, hfb, hb3⟩
  obtain ⟨va, vc, ps, ga, gc, bm, N, hN, hN1000⟩ := hO3.now
  have B3 := hide (below_next B2.out hb3)
  have R3 := hide (R2.out.below hb3)
  obtain ⟨z0, z1⟩ := C2.out.below hb3
  have N3 := hide hN
  have hz3 := hb3.size
  have hfl := hN.box.lt
  have hzw := B2.out.size
  clear hb3 hN hO3 R2 HFO X2 C2
  have HAS := hide (hear_none w2.heap.size fb W F (lst D P n) va vc ps ga gc bm N d da zs.length dc a0 a1 w3 (HG.out.below B3.out) N3.out hWl HF1.out)
  go_wp2_with fail
  clear z0 z1
  refine HAS.out.mono ?_
  rintro e w4 ⟨rfl, hb4⟩
  have B4 := hide (below_next B3.out hb4)
  have R4 := hide (R3.out.below hb4)
  have HAE := hide (answer_err fb 262 (.pointer (some a0)) 4 w4 (fun u hu => fetchCode_unwanted a0 a1 u (HG.out.below (below_next B4.out hu))))
  clear hb4
  go_wp2_with fail
  refine HAE.out.mono ?_
  rintro e w5 ⟨rfl, hb5⟩
  have B5 := hide (below_next B4.out hb5)
  have R5 := hide (R4.out.below hb5)
  clear hb5
  obtain ⟨⟨m0, m1, m2, m3⟩, k0, k1, k2, k3⟩ := R5.out
  go_wp2_with fail
  have hk := Kept.fourF w5 (w.heap.size + 1) (.int .i64 4) (.slice none 0 0) (.slice none 0 0) (.slice none 0 0)
  exact bodyPost_ret (v := .agg #[.int .i64 4, .slice none 0 0, .slice none 0 0, .slice none 0 0]) (by simp [results, Tryz.results11, go_sem, m0, m1, m2, m3]) rfl (ResF.bad (B5.out.trans (hk.below (B := w.heap.size) B5.out.size (fun k hk e => by omega))))
set_option maxRecDepth 100000 in
set_option maxHeartbeats 6400000 in
theorem implHearFetch_full (wa : Option Addr) (wk : Nat) (W : List Wn) (fa : Option Addr) (fc : Nat) (F : List Int) (ca : Option Addr) (cc n : Nat) (D : Nat → Int) (P : Nat → List Int) (d : Int) (da : Option Addr) (dc : Nat) (zs : List Int) (w : World) (a0 a1 : Addr) (hg : Ge w a0 a1) (h : RdF w wa W fa F ca D P n) (hn : n ≤ 1048576) (hP : SmallP P n) (hWl : W.length ≤ 1048576) (hFl : F.length ≤ 1048576) (hr : Reads .u8 w da zs) (hu : U8 zs) (hl : zs.length ≤ 1048576) (hO : oneFault d zs = 0) (hz : fetFault W F D P n = 0) (hR : RightC D P n) (i : Nat) (hi : i < W.length) (hd : (W.getD i (0, 0)).1 = d) (hf : ∀ j, j < W.length → j ≠ i → (W.getD j (0, 0)).1 ≠ d) (hnk : ∀ j, j < n → D j ≠ d) (h40 : 40 ≤ n) :
    Calls Tryz.prog 11 #[fetV wa W.length wk fa F.length fc ca n cc, .int .i64 d, .slice da zs.length dc] w (ResF 2 [] [] D P 0 w) := by
  have B0 := hide (below_next (below_next (below_alloc w (.cells #[.slice wa W.length wk, .slice fa F.length fc, .slice ca n cc] 28)) (below_alloc _ (.cells #[.int .i64 0, .slice none 0 0, .slice none 0 0, .slice none 0 0] 32))) (below_alloc _ (.cells #[.int .i64 d, .slice da zs.length dc] 70)))
  have X0 := hide (((Bx3.new w (.slice wa W.length wk) (.slice fa F.length fc) (.slice ca n cc) 28).below (below_alloc _ (.cells #[.int .i64 0, .slice none 0 0, .slice none 0 0, .slice none 0 0] 32))).below (below_alloc _ (.cells #[.int .i64 d, .slice da zs.length dc] 70)))
  have R0 := hide ((Bx4.new (w.alloc (.cells #[.slice wa W.length wk, .slice fa F.length fc, .slice ca n cc] 28)) (.int .i64 0) (.slice none 0 0) (.slice none 0 0) (.slice none 0 0) 32).below (below_alloc _ (.cells #[.int .i64 d, .slice da zs.length dc] 70)))
  have hs : (w.alloc (.cells #[.slice wa W.length wk, .slice fa F.length fc, .slice ca n cc] 28)).heap.size = w.heap.size + 1 := by simp
  rw [hs] at R0
  clear hs
  have C0 := hide (Two.new ((w.alloc (.cells #[.slice wa W.length wk, .slice fa F.length fc, .slice ca n cc] 28)).alloc (.cells #[.int .i64 0, .slice none 0 0, .slice none 0 0, .slice none 0 0] 32)) (.int .i64 d) (.slice da zs.length dc) 70)
  have hs : ((w.alloc (.cells #[.slice wa W.length wk, .slice fa F.length fc, .slice ca n cc] 28)).alloc (.cells #[.int .i64 0, .slice none 0 0, .slice none 0 0, .slice none 0 0] 32)).heap.size = w.heap.size + 2 := by simp
  rw [hs] at C0
  clear hs
  have hw0 : (((w.alloc (.cells #[.slice wa W.length wk, .slice fa F.length fc, .slice ca n cc] 28)).alloc (.cells #[.int .i64 0, .slice none 0 0, .slice none 0 0, .slice none 0 0] 32)).alloc (.cells #[.int .i64 d, .slice da zs.length dc] 70)).heap.size = w.heap.size + 3 := by simp
  have HON := hide (implOne_any d da dc zs _ (hr.below B0.out) hu hl)
  rw [hO] at HON
  have HFF := hide (fun (u : World) (hb : Below w.heap.size w u) => implFetchFault_any wa wk W fa fc F ca cc n D P u (h.below hb) hn hP hWl hFl)
  rw [hz] at HFF
  have HFO := hide (fun (u : World) (hb : Below w.heap.size w u) => fetchingOf_any wa wk W fa fc F ca cc n D P u (h.below hb) hR hWl hFl)
  have HRt := hide hR
  have HF1 := hide (And.intro hd hf)
  have HNK := hide hnk
  have HM : Hid (d ∉ (lst D P n).map Prod.fst) := hide (by intro hm; obtain ⟨i, hi, e⟩ := lst_key.1 hm; exact hnk i hi e)
  obtain ⟨hrg, hlz, -⟩ := oneFault_zero hO
  have hl2 : (lst D P n).length = n := lst_length D P n
  have HG := hide hg
  clear h hP hr hu hO hz hR hg hf hd hnk
  unfold fetV at HFF HFO ⊢
  go_enter Tryz.func11, Tryz.ntmps11
  obtain ⟨⟨t0, t1, t2⟩, -, -, -⟩ := X0.out
  obtain ⟨z0, z1⟩ := C0.out
  go_wp2_with fail
  clear t0 t1 t2 z0 z1
  generalize ((w.alloc (.cells #[.slice wa W.length wk, .slice fa F.length fc, .slice ca n cc] 28)).alloc (.cells #[.int .i64 0, .slice none 0 0, .slice none 0 0, .slice none 0 0] 32)).alloc (.cells #[.int .i64 d, .slice da zs.length dc] 70) = W0 at *
  refine HON.out.mono ?_
  rintro e w1 ⟨rfl, hb1⟩
  have hz1 := hb1.size
  have B1 := hide (below_next B0.out hb1)
  have X1 := hide (X0.out.below hb1)
  have R1 := hide (R0.out.below hb1)
  have C1 := hide (C0.out.below hb1)
  clear hb1 X0 R0 B0 HON C0
  obtain ⟨⟨t0, t1, t2⟩, -, -, -⟩ := X1.out
  go_wp2_with fail
  clear t0 t1 t2
  refine (HFF.out w1 B1.out).mono ?_
  rintro e w2 ⟨rfl, hb2⟩
  have hz2 := hb2.size
  have B2 := hide (below_next B1.out hb2)
  have X2 := hide (X1.out.below hb2)
  have R2 := hide (R1.out.below hb2)
  have C2 := hide (C1.out.below hb2)
  clear hb2 X1 R1 C1 HFF
  obtain ⟨⟨t0, t1, t2⟩, -, -, -⟩ := X2.out
  go_wp2_with fail
  clear t0 t1 t2
  refine (HFO.out w2 B2.out).mono ?_
  rintro e w3 ⟨fb, rfl, hO3, hfb, hb3⟩
  obtain ⟨va, vc, ps, ga, gc, bm, N, hN, hN1000⟩ := hO3.now
  have B3 := hide (below_next B2.out hb3)
  have R3 := hide (R2.out.below hb3)
  obtain ⟨z0, z1⟩ := C2.out.below hb3
  have N3 := hide hN
  have hz3 := hb3.size
  have hfl := hN.box.lt
  have hzw := B2.out.size
  clear hb3 hN hO3 R2 HFO X2 C2
  have HAS := hide (hear_full w2.heap.size fb i W F (lst D P n) va vc ps ga gc bm N d da zs.length dc a0 a1 w3 (fun u hu => HG.out.below (B3.out.trans (hu.mono hzw))) N3.out hfb hWl hi HF1.out.1 (fun j hj => HF1.out.2 j (by omega) (by omega)) hrg HM.out (by omega))
  go_wp2_with fail
  clear z0 z1
  refine HAS.out.mono ?_
  rintro e w4 ⟨rfl, hb4⟩
  have hz4 := hb4.size
  have B4 := hide (B3.out.trans (hb4.mono hzw))
  have R4 := hide (R3.out.kept (S := fun b => w2.heap.size ≤ b) ⟨hb4.os, hb4.tape, hb4.output, hb4.size, fun k hk hn => hb4.block k (by omega)⟩ (by omega))
  have HAE := hide (answer_err fb 262 (.pointer (some a1)) 2 w4 (fun u hu => fetchCode_noRoom a0 a1 u (HG.out.below (below_next B4.out hu))))
  clear hb4
  go_wp2_with fail
  refine HAE.out.mono ?_
  rintro e w5 ⟨rfl, hb5⟩
  have B5 := hide (below_next B4.out hb5)
  have R5 := hide (R4.out.below hb5)
  clear hb5
  obtain ⟨⟨m0, m1, m2, m3⟩, k0, k1, k2, k3⟩ := R5.out
  go_wp2_with fail
  have hk := Kept.fourF w5 (w.heap.size + 1) (.int .i64 2) (.slice none 0 0) (.slice none 0 0) (.slice none 0 0)
  exact bodyPost_ret (v := .agg #[.int .i64 2, .slice none 0 0, .slice none 0 0, .slice none 0 0]) (by simp [results, Tryz.results11, go_sem, m0, m1, m2, m3]) rfl (ResF.bad (B5.out.trans (hk.below (B := w.heap.size) B5.out.size (fun k hk e => by omega))))
set_option maxRecDepth 100000 in
set_option maxHeartbeats 6400000 in
theorem implHearFetch_new (wa : Option Addr) (wk : Nat) (W : List Wn) (fa : Option Addr) (fc : Nat) (F : List Int) (ca : Option Addr) (cc n : Nat) (D : Nat → Int) (P : Nat → List Int) (d : Int) (da : Option Addr) (dc : Nat) (zs : List Int) (w : World) (h : RdF w wa W fa F ca D P n) (hn : n ≤ 1048576) (hP : SmallP P n) (hWl : W.length ≤ 1048576) (hFl : F.length ≤ 1048576) (hr : Reads .u8 w da zs) (hu : U8 zs) (hl : zs.length ≤ 1048576) (hO : oneFault d zs = 0) (hz : fetFault W F D P n = 0) (hR : RightC D P n) (i : Nat) (hi : i < W.length) (hd : (W.getD i (0, 0)).1 = d) (hf : ∀ j, j < W.length → j ≠ i → (W.getD j (0, 0)).1 ≠ d) (hnk : ∀ j, j < n → D j ≠ d) (h40 : n < 40) (m : Nat) (hm : m ≤ n) (hlow : ∀ i, i < m → D i < d) (hhigh : m < n → ¬ D m < d) :
    Calls Tryz.prog 11 #[fetV wa W.length wk fa F.length fc ca n cc, .int .i64 d, .slice da zs.length dc] w (ResF 0 (W.eraseIdx i) F (ins D m d) (ins P m zs) (n + 1) w) := by
  have B0 := hide (below_next (below_next (below_alloc w (.cells #[.slice wa W.length wk, .slice fa F.length fc, .slice ca n cc] 28)) (below_alloc _ (.cells #[.int .i64 0, .slice none 0 0, .slice none 0 0, .slice none 0 0] 32))) (below_alloc _ (.cells #[.int .i64 d, .slice da zs.length dc] 70)))
  have X0 := hide (((Bx3.new w (.slice wa W.length wk) (.slice fa F.length fc) (.slice ca n cc) 28).below (below_alloc _ (.cells #[.int .i64 0, .slice none 0 0, .slice none 0 0, .slice none 0 0] 32))).below (below_alloc _ (.cells #[.int .i64 d, .slice da zs.length dc] 70)))
  have R0 := hide ((Bx4.new (w.alloc (.cells #[.slice wa W.length wk, .slice fa F.length fc, .slice ca n cc] 28)) (.int .i64 0) (.slice none 0 0) (.slice none 0 0) (.slice none 0 0) 32).below (below_alloc _ (.cells #[.int .i64 d, .slice da zs.length dc] 70)))
  have hs : (w.alloc (.cells #[.slice wa W.length wk, .slice fa F.length fc, .slice ca n cc] 28)).heap.size = w.heap.size + 1 := by simp
  rw [hs] at R0
  clear hs
  have C0 := hide (Two.new ((w.alloc (.cells #[.slice wa W.length wk, .slice fa F.length fc, .slice ca n cc] 28)).alloc (.cells #[.int .i64 0, .slice none 0 0, .slice none 0 0, .slice none 0 0] 32)) (.int .i64 d) (.slice da zs.length dc) 70)
  have hs : ((w.alloc (.cells #[.slice wa W.length wk, .slice fa F.length fc, .slice ca n cc] 28)).alloc (.cells #[.int .i64 0, .slice none 0 0, .slice none 0 0, .slice none 0 0] 32)).heap.size = w.heap.size + 2 := by simp
  rw [hs] at C0
  clear hs
  have hw0 : (((w.alloc (.cells #[.slice wa W.length wk, .slice fa F.length fc, .slice ca n cc] 28)).alloc (.cells #[.int .i64 0, .slice none 0 0, .slice none 0 0, .slice none 0 0] 32)).alloc (.cells #[.int .i64 d, .slice da zs.length dc] 70)).heap.size = w.heap.size + 3 := by simp
  have HON := hide (implOne_any d da dc zs _ (hr.below B0.out) hu hl)
  rw [hO] at HON
  have HFF := hide (fun (u : World) (hb : Below w.heap.size w u) => implFetchFault_any wa wk W fa fc F ca cc n D P u (h.below hb) hn hP hWl hFl)
  rw [hz] at HFF
  have HFO := hide (fun (u : World) (hb : Below w.heap.size w u) => fetchingOf_any wa wk W fa fc F ca cc n D P u (h.below hb) hR hWl hFl)
  have HRt := hide hR
  have HF1 := hide (And.intro hd hf)
  have HNK := hide hnk
  have HM : Hid (d ∉ (lst D P n).map Prod.fst) := hide (by intro hm; obtain ⟨i, hi, e⟩ := lst_key.1 hm; exact hnk i hi e)
  obtain ⟨hrg, hlz, -⟩ := oneFault_zero hO
  have hl2 : (lst D P n).length = n := lst_length D P n
  have HUP := hide (up_ins (zs := zs) hR hm hlow hhigh hnk)
  have HRD := hide hr
  have HLT : Hid (∀ x, da = some x → x.block < w.heap.size) := hide (hr.lt (by intro e; subst e; simp at hlz))
  have hWl2 : (W.eraseIdx i).length ≤ 1048576 := Nat.le_trans (List.length_eraseIdx_le ..) hWl
  have HSM : Hid (∀ p ∈ lst D P n ++ [(d, zs)], 0 < p.2.length ∧ p.2.length ≤ 1048576) := hide (by
    intro p hp
    rcases List.mem_append.1 hp with hp | hp
    · exact lst_small hR p hp
    · obtain rfl := List.mem_singleton.1 hp
      exact ⟨hlz.1, hl⟩)
  have hl3 : (lst D P n ++ [(d, zs)]).length = n + 1 := by simp [hl2]
  clear h hP hr hu hO hz hR hf hd hnk hlow hhigh
  unfold fetV at HFF HFO ⊢
  go_enter Tryz.func11, Tryz.ntmps11
  obtain ⟨⟨t0, t1, t2⟩, -, -, -⟩ := X0.out
  obtain ⟨z0, z1⟩ := C0.out
  go_wp2_with fail
  clear t0 t1 t2 z0 z1
  generalize ((w.alloc (.cells #[.slice wa W.length wk, .slice fa F.length fc, .slice ca n cc] 28)).alloc (.cells #[.int .i64 0, .slice none 0 0, .slice none 0 0, .slice none 0 0] 32)).alloc (.cells #[.int .i64 d, .slice da zs.length dc] 70) = W0 at *
  refine HON.out.mono ?_
  rintro e w1 ⟨rfl, hb1⟩
  have hz1 := hb1.size
  have B1 := hide (below_next B0.out hb1)
  have X1 := hide (X0.out.below hb1)
  have R1 := hide (R0.out.below hb1)
  have C1 := hide (C0.out.below hb1)
  clear hb1 X0 R0 B0 HON C0
  obtain ⟨⟨t0, t1, t2⟩, -, -, -⟩ := X1.out
  go_wp2_with fail
  clear t0 t1 t2
  refine (HFF.out w1 B1.out).mono ?_
  rintro e w2 ⟨rfl, hb2⟩
  have hz2 := hb2.size
  have B2 := hide (below_next B1.out hb2)
  have X2 := hide (X1.out.below hb2)
  have R2 := hide (R1.out.below hb2)
  have C2 := hide (C1.out.below hb2)
  clear hb2 X1 R1 C1 HFF
  obtain ⟨⟨t0, t1, t2⟩, -, -, -⟩ := X2.out
  go_wp2_with fail
  clear t0 t1 t2
  refine (HFO.out w2 B2.out).mono ?_
  rintro e w3 ⟨fb, rfl, hO3, hfb, hb3⟩
  obtain ⟨va, vc, ps, ga, gc, bm, N, hN, hN1000⟩ := hO3.now
  have B3 := hide (below_next B2.out hb3)
  have R3 := hide (R2.out.below hb3)
  obtain ⟨z0, z1⟩ := C2.out.below hb3
  have N3 := hide hN
  have hz3 := hb3.size
  have hfl := hN.box.lt
  have hzw := B2.out.size
  clear hb3 hN hO3 R2 HFO X2 C2
  have HAS := hide (hear_new w2.heap.size fb i W F (lst D P n) va vc ps ga gc bm N d da dc zs w3 N3.out hfb hN1000 hWl hi HF1.out.1 HF1.out.2 hrg HM.out (by omega) (HRD.out.below B3.out) (fun x hx => by have := HLT.out x hx; omega))
  go_wp2_with fail
  clear z0 z1
  refine HAS.out.mono ?_
  rintro e w4 ⟨rfl, hN4, hb4⟩
  have E4 := hide hN4.end
  have hz4 := hb4.size
  have B4 := hide (B3.out.trans (hb4.mono hzw))
  have R4 := hide (R3.out.kept (S := fun b => w2.heap.size ≤ b) ⟨hb4.os, hb4.tape, hb4.output, hb4.size, fun k hk hn => hb4.block k (by omega)⟩ (by omega))
  clear hb4 hN4 HAS R3 N3
  have HAN := hide (answer_nil fb va vc (ps.eraseIdx i) (W.eraseIdx i) ga gc F.length bm (N + 1) w2.heap.size (lst D P n ++ [(d, zs)]) w4 E4.out.box E4.out.wants E4.out.held (by omega) hWl2 (by omega) HSM.out)
  go_wp2_with fail
  refine HAN.out.mono ?_
  rintro e w5 ⟨xa, xc, ya, yc, rfl, hOW, hGC, hb5⟩
  rw [hl3] at hGC ⊢
  rw [HUP.out] at hGC
  have OW4 := hide hOW
  have GC4 := hide (hGC.congr (D' := ins D m d) (P' := ins P m zs) (fun i hi => (dg_lst hi).symm) (fun i hi => (bt_lst hi).symm))
  have OF4 := hide (ownsRow_below E4.out.failed hb5)
  have B5 := hide (below_next B4.out hb5)
  obtain ⟨⟨m0, m1, m2, m3⟩, k0, k1, k2, k3⟩ := R4.out.below hb5
  have hz5 := hb5.size
  clear hOW hGC hb5
  go_wp2_with fail
  exact bodyPost_ret (v := .agg #[.int .i64 0, .slice xa (W.eraseIdx i).length xc, .slice ga F.length gc, .slice ya (n + 1) yc]) (by simp [results, Tryz.results11, go_sem, m0, m1, m2, m3]) rfl (ResF.box (B := w2.heap.size) (OW4.out.mono (by omega)) OF4.out (GC4.out.mono (by omega)) B5.out (by omega) (by omega))
end Go.Proofs.YtfamiehfpmjljaaGreatDoor

