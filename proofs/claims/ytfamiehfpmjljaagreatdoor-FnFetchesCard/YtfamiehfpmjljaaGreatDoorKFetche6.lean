/-
  Texts put together: FetI FetJ FetS.
-/
import Derived.Test.YtfamiehfpmjljaaGreatDoorKFetche5
import Derived.Test.YtfamiehfpmjljaaGreatDoorKFetche3
import Derived.Test.YtfamiehfpmjljaaGreatDoorKFetche2
import Derived.Deep.CutRange
namespace Go.Proofs.YtfamiehfpmjljaaGreatDoor
open Go.RowKit Go.Maps
set_option linter.unusedVariables false

structure NowF (B fb : Nat) (w : World) (W : List Wn) (F : List Int) (L : List Ch) (wa : Option Addr) (wk : Nat) (ps : List Nat) (fa : Option Addr) (fc bm N : Nat) : Prop where
  box : Bx3 w fb (.slice wa W.length wk) (.slice fa F.length fc) (.map (some bm))
  wants : OwnP (fb + 1) w (.slice wa W.length wk) ps W
  failed : w.ownsRow B 2 1 (.slice fa F.length fc) F.length (F.map (Value.int .i64))
  ahead : ∀ b, (Value.slice fa F.length fc).ownBlock = some b → b < fb
  held : Holds w bm N L B
  low : B ≤ bm
  high : bm < fb
  room : N ≤ 1048576
theorem NowF.below {B fb : Nat} {w w' : World} {W : List Wn} {F : List Int} {L : List Ch} {wa : Option Addr} {wk : Nat} {ps : List Nat} {fa : Option Addr} {fc bm N : Nat} (h : NowF B fb w W F L wa wk ps fa fc bm N) (hb : Below w.heap.size w w') : NowF B fb w' W F L wa wk ps fa fc bm N :=
  ⟨h.box.below hb, h.wants.below hb, ownsRow_below h.failed hb, h.ahead, h.held.below hb, h.low, h.high, h.room⟩
set_option maxRecDepth 100000 in
set_option maxHeartbeats 1600000 in
theorem ask_failed (B fb : Nat) (W : List Wn) (F : List Int) (L : List Ch) (wa : Option Addr) (wk : Nat) (ps : List Nat) (fa : Option Addr) (fc bm N : Nat) (d : Int) (w : World) (h : NowF B fb w W F L wa wk ps fa fc bm N) (hFl : F.length ≤ 1048576) (hd : d ∈ F) :
    Calls Tryz.prog 60 #[.pointer (some ⟨fb, 0, none⟩), .int .i64 d] w fun e w' => e = .returned (.iface 131 (.agg #[.int .i64 d])) ∧ w' = w := by
  have HCn := hide (slContains_any fa fc F d w (ownsRow_own h.failed rfl).reads hFl)
  rw [show F.contains d = true by simpa using hd] at HCn
  obtain ⟨⟨x0, x1, x2⟩, x3, x4, x5⟩ := h.box
  clear h hd
  go_enter Tryz.func60, Tryz.ntmps60
  go_wp2_with fail
  refine HCn.out.mono ?_
  rintro e w ⟨rfl, rfl⟩
  go_wp2_with fail
  go_ret
  exact ⟨rfl, rfl⟩
set_option maxRecDepth 100000 in
set_option maxHeartbeats 1600000 in
theorem ask_known (B fb : Nat) (W : List Wn) (F : List Int) (L : List Ch) (wa : Option Addr) (wk : Nat) (ps : List Nat) (fa : Option Addr) (fc bm N : Nat) (d : Int) (w : World) (h : NowF B fb w W F L wa wk ps fa fc bm N) (hWl : W.length ≤ 1048576) (hFl : F.length ≤ 1048576) (hok : okD d) (hd : d ∉ F) (hk : d ∈ L.map Prod.fst ∨ d ∈ W.map Prod.fst) :
    Calls Tryz.prog 60 #[.pointer (some ⟨fb, 0, none⟩), .int .i64 d] w fun e w' => e = .returned .nilIface ∧ Below w.heap.size w w' := by
  have HCn := hide (slContains_any fa fc F d w (ownsRow_own h.failed rfl).reads hFl)
  rw [show F.contains d = false by simpa using hd] at HCn
  have HKn := hide (knows_any fb wa wk ps W fa fc F bm N B L d w h.box.1.1 h.box.1.2.1 h.box.1.2.2 h.wants.rd (ownsRow_own h.failed rfl).reads h.held hWl hFl (okD_wf hok))
  rw [decide_eq_true (show d ∈ L.map Prod.fst ∨ d ∈ F ∨ d ∈ W.map Prod.fst from hk.elim Or.inl (fun h => Or.inr (Or.inr h)))] at HKn
  obtain ⟨⟨x0, x1, x2⟩, x3, x4, x5⟩ := h.box
  clear h hd hk hok
  go_enter Tryz.func60, Tryz.ntmps60
  go_wp2_with fail
  refine HCn.out.mono ?_
  rintro e w ⟨rfl, rfl⟩
  go_wp2_with fail
  refine HKn.out.mono ?_
  rintro e w1 ⟨rfl, hb1⟩
  have B1 := hide hb1
  clear hb1
  go_wp2_with fail
  go_ret
  exact ⟨rfl, B1.out⟩
set_option maxRecDepth 100000 in
set_option maxHeartbeats 3200000 in
theorem ask_new (B fb : Nat) (W : List Wn) (F : List Int) (L : List Ch) (wa : Option Addr) (wk : Nat) (ps : List Nat) (fa : Option Addr) (fc bm N : Nat) (d : Int) (w : World) (h : NowF B fb w W F L wa wk ps fa fc bm N) (hB : B ≤ fb) (hFl : F.length ≤ 1048576) (hok : okD d) (hd : d ∉ F) (hk : ¬ (d ∈ L.map Prod.fst ∨ d ∈ W.map Prod.fst)) (hfull : ¬ 12 ≤ W.length) :
    Calls Tryz.prog 60 #[.pointer (some ⟨fb, 0, none⟩), .int .i64 d] w fun e w' => e = .returned .nilIface ∧ (∃ wa' wk' p, NowF B fb w' (W ++ [(d, 0)]) F L wa' wk' (ps ++ [p]) fa fc bm N) ∧ Below fb w w' := by
  obtain ⟨i1, ki, kz0, kz1, kz2⟩ := info_parts Tryz.infoPW
  have HCn := hide (slContains_any fa fc F d w (ownsRow_own h.failed rfl).reads hFl)
  rw [show F.contains d = false by simpa using hd] at HCn
  have HKn := hide (knows_any fb wa wk ps W fa fc F bm N B L d w h.box.1.1 h.box.1.2.1 h.box.1.2.2 h.wants.rd (ownsRow_own h.failed rfl).reads h.held (by omega) hFl (okD_wf hok))
  rw [decide_eq_false (show ¬ (d ∈ L.map Prod.fst ∨ d ∈ F ∨ d ∈ W.map Prod.fst) from fun h => h.elim (fun h => hk (Or.inl h)) (fun h => h.elim hd (fun h => hk (Or.inr h))))] at HKn
  have HN := hide h
  obtain ⟨⟨x0, x1, x2⟩, x3, x4, x5⟩ := h.box
  have h12 : ¬ (12 : Int) ≤ (W.length : Int) := by omega
  have hm1 : W.length + 1 ≤ maxLen := by unfold maxLen; omega
  have hm2 : (W.length + 1) * 8 ≤ 140737488355328 := by omega
  clear h hd hk hok
  go_enter Tryz.func60, Tryz.ntmps60
  go_wp2_with fail
  refine HCn.out.mono ?_
  rintro e w ⟨rfl, rfl⟩
  go_wp2_with fail
  clear x0 x1 x2 x3 x4 x5
  refine HKn.out.mono ?_
  rintro e w1 ⟨rfl, hb1⟩
  have B1 := hide hb1
  have N1 := hide (HN.out.below hb1)
  have hfl := HN.out.box.lt
  have hz1 := hb1.size
  clear hb1 HKn HCn HN
  have A1 := hide (below_alloc w1 (.cells #[.int .i64 d, .int .i64 0] 120))
  have P1 := hide (Box.new w1 (.int .i64 d) (.int .i64 0) 120)
  have N2 := hide (N1.out.below A1.out)
  have R2 := hide N2.out.wants.row
  obtain ⟨⟨x0, x1, x2⟩, x3, x4, x5⟩ := N1.out.box
  obtain ⟨⟨z0, z1, z2⟩, z3, z4, z5⟩ := N2.out.box
  have hsz : fb + 1 ≤ (w1.alloc (.cells #[.int .i64 d, .int .i64 0] 120)).heap.size := by simp; omega
  go_wp2_with (at_builtin; refine wpList_append_at rfl (.tmp 28) (.tmp 32) 95 rfl (fb + 1) 123 i1 (.pointer none) 1 8 Tryz.underlying95 ki kz0 kz1 kz2 rfl (by decide) _ _ _ rfl R2.out (w1.heap.size + 1) (by simp) rfl rfl (by intro u hu; simp at hu; subst hu; rfl) hm1 hm2 hsz ?_; intro v' w3 hrow3 hk3; obtain ⟨a', c', rfl⟩ := ownsRow_shape hrow3; have O3 := hide hrow3; have K3 := hide hk3; have X3 := hide (N2.out.box.kept hk3 (fun e => by have := (R2.out.lt _ e).1; omega)); clear hrow3 hk3; obtain ⟨⟨y0, y1, y2⟩, y3, y4, y5⟩ := X3.out)
  go_ret
  have hown : ∀ b, (Value.slice wa W.length wk).ownBlock = some b → fb + 1 ≤ b ∧ b < w1.heap.size := fun b hb => N1.out.wants.row.lt b hb
  have OP3 := N2.out.wants.push (p := w1.heap.size) P1.out (by omega) (fun i hi e => by
    have h1 := (N1.out.wants.box i hi).2.1.lt
    omega) O3.out K3.out (fun b hb e => by have := hown b hb; omega)
  have hk4 := Kept.one w3 fb 0 (.slice a' (W.length + 1) c')
  refine ⟨rfl, ⟨a', c', w1.heap.size, ?_, ?_, ?_, N1.out.ahead, ?_, N1.out.low, N1.out.high, N1.out.room⟩, ?_⟩
  · have := X3.out.set0 (.slice a' (W.length + 1) c')
    simpa using this
  · have := OP3.kept hk4 (fun b hb e => by omega)
    simpa using this
  · refine ownsRow_kept (ownsRow_kept N2.out.failed K3.out (fun b hb e => ?_)) hk4 (fun b hb e => ?_)
    · have h1 := N1.out.ahead b hb
      have h2 := hown b e
      omega
    · have h1 := N1.out.ahead b hb
      omega
  · refine (N2.out.held.kept K3.out (fun e => ?_) (fun x hx => ?_)).kept hk4 (fun e => ?_) (fun x hx => ?_)
    · have h1 := hown _ e
      have h2 := N1.out.high
      omega
    · have h1 := hown _ hx
      omega
    · have h2 := N1.out.high
      omega
    · omega
  · have hb2 : Below fb w (w1.alloc (.cells #[.int .i64 d, .int .i64 0] 120)) := (below_next B1.out A1.out).mono (by omega)
    exact (hb2.trans (K3.out.below (B := fb) (by simp; omega) (fun j hj e => by have := hown _ e; omega))).setCell (Nat.le_refl _) _
end Go.Proofs.YtfamiehfpmjljaaGreatDoor

namespace Go.Proofs.YtfamiehfpmjljaaGreatDoor
open Go.RowKit Go.Maps
set_option linter.unusedVariables false

theorem OwnF.now {B fb : Nat} {w : World} {W : List Wn} {F : List Int} {L : List Ch} (h : OwnF B fb w W F L) : ∃ wa wk ps fa fc bm N, NowF B fb w W F L wa wk ps fa fc bm N ∧ N ≤ 1000 := by
  obtain ⟨wa, wk, ps, fa, fc, bm, N, h1, h2, ⟨h3, h4⟩, h5, h6, h7, h8⟩ := h
  exact ⟨wa, wk, ps, fa, fc, bm, N, ⟨h1, h2, h3, h4, h5, h6, h7, by omega⟩, h8⟩
set_option maxRecDepth 100000 in
set_option maxHeartbeats 6400000 in
theorem implAskFetch_away (wa : Option Addr) (wk : Nat) (W : List Wn) (fa : Option Addr) (fc : Nat) (F : List Int) (ca : Option Addr) (cc n : Nat) (D : Nat → Int) (P : Nat → List Int) (d : Int) (w : World) (a0 a1 : Addr) (hg : Ge w a0 a1) (h : RdF w wa W fa F ca D P n) (hn : n ≤ 1048576) (hP : SmallP P n) (hWl : W.length ≤ 1048576) (hFl : F.length ≤ 1048576) (hz : fetFault W F D P n = 0) (hR : RightC D P n) (hd : okD d) (hf : d ∈ F) :
    Calls Tryz.prog 18 #[fetV wa W.length wk fa F.length fc ca n cc, .int .i64 d] w (ResF 8 [] [] D P 0 w) := by
  have B0 := hide (below_next (below_alloc w (.cells #[.slice wa W.length wk, .slice fa F.length fc, .slice ca n cc] 28)) (below_alloc _ (.cells #[.int .i64 0, .slice none 0 0, .slice none 0 0, .slice none 0 0] 32)))
  have X0 := hide ((Bx3.new w (.slice wa W.length wk) (.slice fa F.length fc) (.slice ca n cc) 28).below (below_alloc _ (.cells #[.int .i64 0, .slice none 0 0, .slice none 0 0, .slice none 0 0] 32)))
  have R0 := hide (Bx4.new (w.alloc (.cells #[.slice wa W.length wk, .slice fa F.length fc, .slice ca n cc] 28)) (.int .i64 0) (.slice none 0 0) (.slice none 0 0) (.slice none 0 0) 32)
  have hs : (w.alloc (.cells #[.slice wa W.length wk, .slice fa F.length fc, .slice ca n cc] 28)).heap.size = w.heap.size + 1 := by simp
  rw [hs] at R0
  clear hs
  have HFF := hide (implFetchFault_any wa wk W fa fc F ca cc n D P _ (h.below B0.out) hn hP hWl hFl)
  rw [hz] at HFF
  have HIS := hide (fun (u : World) => isDg_any d u)
  rw [decide_eq_true hd] at HIS
  have HFO := hide (fun (u : World) (hu : Below w.heap.size w u) => fetchingOf_any wa wk W fa fc F ca cc n D P u (h.below hu) hR hWl hFl)
  have HRt := hide hR
  have HOK := hide hd
  have HG := hide hg
  have HF1 := hide hf
  clear h hP hz hd hR hg hf
  unfold fetV at HFF HFO ⊢
  go_enter Tryz.func18, Tryz.ntmps18
  obtain ⟨⟨t0, t1, t2⟩, -, -, -⟩ := X0.out
  go_wp2_with fail
  clear t0 t1 t2
  generalize (w.alloc (.cells #[.slice wa W.length wk, .slice fa F.length fc, .slice ca n cc] 28)).alloc (.cells #[.int .i64 0, .slice none 0 0, .slice none 0 0, .slice none 0 0] 32) = W0 at *
  refine HFF.out.mono ?_
  rintro e w1 ⟨rfl, hb1⟩
  have B1 := hide (below_next B0.out hb1)
  have X1 := hide (X0.out.below hb1)
  have R1 := hide (R0.out.below hb1)
  clear hb1 X0 R0 B0 HFF
  go_wp2_with fail
  refine (HIS.out w1).mono ?_
  rintro e w1 ⟨rfl, rfl⟩
  obtain ⟨⟨t0, t1, t2⟩, -, -, -⟩ := X1.out
  go_wp2_with fail
  clear t0 t1 t2
  refine (HFO.out w1 B1.out).mono ?_
  rintro e w2 ⟨fb, rfl, hO, hfb, hb2⟩
  obtain ⟨va, vc, ps, ga, gc, bm, N, hN, hN1000⟩ := hO.now
  have B2 := hide (below_next B1.out hb2)
  have R2 := hide (R1.out.below hb2)
  have N2 := hide hN
  have hz2 := hb2.size
  have hr1 := R1.out.lt
  have hfl := hN.box.lt
  have hzw := B1.out.size
  clear hb2 hN hO R1 HFO HIS X1
  have HAS := hide (ask_failed w1.heap.size fb W F (lst D P n) va vc ps ga gc bm N d w2 N2.out hFl HF1.out)
  have HAE := hide (answer_err fb 131 (.agg #[.int .i64 d]) 8 w2 (fun u hu => fetchCode_failure d a0 a1 u (HG.out.below (below_next B2.out hu))))
  go_wp2_with fail
  refine HAS.out.mono ?_
  rintro e w2 ⟨rfl, rfl⟩
  go_wp2_with fail
  refine HAE.out.mono ?_
  rintro e w3 ⟨rfl, hb3⟩
  have B3 := hide (below_next B2.out hb3)
  have R3 := hide (R2.out.below hb3)
  clear hb3
  obtain ⟨⟨m0, m1, m2, m3⟩, k0, k1, k2, k3⟩ := R3.out
  go_wp2_with fail
  have hk := Kept.fourF w3 (w.heap.size + 1) (.int .i64 8) (.slice none 0 0) (.slice none 0 0) (.slice none 0 0)
  exact bodyPost_ret (v := .agg #[.int .i64 8, .slice none 0 0, .slice none 0 0, .slice none 0 0]) (by simp [results, Tryz.results18, go_sem, m0, m1, m2, m3]) rfl (ResF.bad (B3.out.trans (hk.below (B := w.heap.size) B3.out.size (fun k hk e => by omega))))
set_option maxRecDepth 100000 in
set_option maxHeartbeats 6400000 in
theorem implAskFetch_known (wa : Option Addr) (wk : Nat) (W : List Wn) (fa : Option Addr) (fc : Nat) (F : List Int) (ca : Option Addr) (cc n : Nat) (D : Nat → Int) (P : Nat → List Int) (d : Int) (w : World) (h : RdF w wa W fa F ca D P n) (hn : n ≤ 1048576) (hP : SmallP P n) (hWl : W.length ≤ 1048576) (hFl : F.length ≤ 1048576) (hz : fetFault W F D P n = 0) (hR : RightC D P n) (hd : okD d) (hf : d ∉ F) (hk : d ∈ keysC D n ∨ d ∈ W.map Prod.fst) :
    Calls Tryz.prog 18 #[fetV wa W.length wk fa F.length fc ca n cc, .int .i64 d] w (ResF 0 W F D P n w) := by
  have B0 := hide (below_next (below_alloc w (.cells #[.slice wa W.length wk, .slice fa F.length fc, .slice ca n cc] 28)) (below_alloc _ (.cells #[.int .i64 0, .slice none 0 0, .slice none 0 0, .slice none 0 0] 32)))
  have X0 := hide ((Bx3.new w (.slice wa W.length wk) (.slice fa F.length fc) (.slice ca n cc) 28).below (below_alloc _ (.cells #[.int .i64 0, .slice none 0 0, .slice none 0 0, .slice none 0 0] 32)))
  have R0 := hide (Bx4.new (w.alloc (.cells #[.slice wa W.length wk, .slice fa F.length fc, .slice ca n cc] 28)) (.int .i64 0) (.slice none 0 0) (.slice none 0 0) (.slice none 0 0) 32)
  have hs : (w.alloc (.cells #[.slice wa W.length wk, .slice fa F.length fc, .slice ca n cc] 28)).heap.size = w.heap.size + 1 := by simp
  rw [hs] at R0
  clear hs
  have HFF := hide (implFetchFault_any wa wk W fa fc F ca cc n D P _ (h.below B0.out) hn hP hWl hFl)
  rw [hz] at HFF
  have HIS := hide (fun (u : World) => isDg_any d u)
  rw [decide_eq_true hd] at HIS
  have HFO := hide (fun (u : World) (hu : Below w.heap.size w u) => fetchingOf_any wa wk W fa fc F ca cc n D P u (h.below hu) hR hWl hFl)
  have HRt := hide hR
  have HOK := hide hd
  have HF1 := hide hf
  have HK1 : Hid (d ∈ (lst D P n).map Prod.fst ∨ d ∈ W.map Prod.fst) := hide (by rw [keys_lst]; exact hk)
  clear h hP hz hd hR hf hk
  unfold fetV at HFF HFO ⊢
  go_enter Tryz.func18, Tryz.ntmps18
  obtain ⟨⟨t0, t1, t2⟩, -, -, -⟩ := X0.out
  go_wp2_with fail
  clear t0 t1 t2
  generalize (w.alloc (.cells #[.slice wa W.length wk, .slice fa F.length fc, .slice ca n cc] 28)).alloc (.cells #[.int .i64 0, .slice none 0 0, .slice none 0 0, .slice none 0 0] 32) = W0 at *
  refine HFF.out.mono ?_
  rintro e w1 ⟨rfl, hb1⟩
  have B1 := hide (below_next B0.out hb1)
  have X1 := hide (X0.out.below hb1)
  have R1 := hide (R0.out.below hb1)
  clear hb1 X0 R0 B0 HFF
  go_wp2_with fail
  refine (HIS.out w1).mono ?_
  rintro e w1 ⟨rfl, rfl⟩
  obtain ⟨⟨t0, t1, t2⟩, -, -, -⟩ := X1.out
  go_wp2_with fail
  clear t0 t1 t2
  refine (HFO.out w1 B1.out).mono ?_
  rintro e w2 ⟨fb, rfl, hO, hfb, hb2⟩
  obtain ⟨va, vc, ps, ga, gc, bm, N, hN, hN1000⟩ := hO.now
  have B2 := hide (below_next B1.out hb2)
  have R2 := hide (R1.out.below hb2)
  have N2 := hide hN
  have hz2 := hb2.size
  have hr1 := R1.out.lt
  have hfl := hN.box.lt
  have hzw := B1.out.size
  clear hb2 hN hO R1 HFO HIS X1
  have HAS := hide (ask_known w1.heap.size fb W F (lst D P n) va vc ps ga gc bm N d w2 N2.out hWl hFl HOK.out HF1.out HK1.out)
  go_wp2_with fail
  refine HAS.out.mono ?_
  rintro e w3 ⟨rfl, hb3⟩
  have B3 := hide (below_next B2.out hb3)
  have R3 := hide (R2.out.below hb3)
  have N3 := hide (N2.out.below hb3)
  have hz3 := hb3.size
  clear hb3 HAS R2 N2
  have hl2 : (lst D P n).length = n := lst_length D P n
  have HAN := hide (answer_nil fb va vc ps W ga gc F.length bm N w1.heap.size (lst D P n) w3 N3.out.box N3.out.wants.rd N3.out.held (by have := B3.out.size; omega) (by first | exact hWl | (simp; omega)) (by rw [hl2]; exact hn) (lst_small HRt.out))
  go_wp2_with fail
  refine HAN.out.mono ?_
  rintro e w4 ⟨xa, xc, ya, yc, rfl, hOW, hGC, hb4⟩
  rw [hl2] at hGC ⊢
  have OW4 := hide hOW
  have GC4 := hide (gc_right HRt.out hGC)
  have OF4 := hide (ownsRow_below N3.out.failed hb4)
  have B4 := hide (below_next B3.out hb4)
  obtain ⟨⟨m0, m1, m2, m3⟩, k0, k1, k2, k3⟩ := R3.out.below hb4
  have hz4 := hb4.size
  clear hOW hGC hb4
  go_wp2_with fail
  exact bodyPost_ret (v := .agg #[.int .i64 0, .slice xa W.length xc, .slice ga F.length gc, .slice ya n yc]) (by simp [results, Tryz.results18, go_sem, m0, m1, m2, m3]) rfl (ResF.box (B := w1.heap.size) (OW4.out.mono (by omega)) OF4.out (GC4.out.mono (by omega)) B4.out (by omega) (by omega))
set_option maxRecDepth 100000 in
set_option maxHeartbeats 6400000 in
theorem implAskFetch_new (wa : Option Addr) (wk : Nat) (W : List Wn) (fa : Option Addr) (fc : Nat) (F : List Int) (ca : Option Addr) (cc n : Nat) (D : Nat → Int) (P : Nat → List Int) (d : Int) (w : World) (h : RdF w wa W fa F ca D P n) (hn : n ≤ 1048576) (hP : SmallP P n) (hWl : W.length ≤ 1048576) (hFl : F.length ≤ 1048576) (hz : fetFault W F D P n = 0) (hR : RightC D P n) (hd : okD d) (hf : d ∉ F) (hk : ¬ (d ∈ keysC D n ∨ d ∈ W.map Prod.fst)) (hm : ¬ 12 ≤ W.length) :
    Calls Tryz.prog 18 #[fetV wa W.length wk fa F.length fc ca n cc, .int .i64 d] w (ResF 0 (W ++ [(d, 0)]) F D P n w) := by
  have B0 := hide (below_next (below_alloc w (.cells #[.slice wa W.length wk, .slice fa F.length fc, .slice ca n cc] 28)) (below_alloc _ (.cells #[.int .i64 0, .slice none 0 0, .slice none 0 0, .slice none 0 0] 32)))
  have X0 := hide ((Bx3.new w (.slice wa W.length wk) (.slice fa F.length fc) (.slice ca n cc) 28).below (below_alloc _ (.cells #[.int .i64 0, .slice none 0 0, .slice none 0 0, .slice none 0 0] 32)))
  have R0 := hide (Bx4.new (w.alloc (.cells #[.slice wa W.length wk, .slice fa F.length fc, .slice ca n cc] 28)) (.int .i64 0) (.slice none 0 0) (.slice none 0 0) (.slice none 0 0) 32)
  have hs : (w.alloc (.cells #[.slice wa W.length wk, .slice fa F.length fc, .slice ca n cc] 28)).heap.size = w.heap.size + 1 := by simp
  rw [hs] at R0
  clear hs
  have HFF := hide (implFetchFault_any wa wk W fa fc F ca cc n D P _ (h.below B0.out) hn hP hWl hFl)
  rw [hz] at HFF
  have HIS := hide (fun (u : World) => isDg_any d u)
  rw [decide_eq_true hd] at HIS
  have HFO := hide (fun (u : World) (hu : Below w.heap.size w u) => fetchingOf_any wa wk W fa fc F ca cc n D P u (h.below hu) hR hWl hFl)
  have HRt := hide hR
  have HOK := hide hd
  have HF1 := hide hf
  have HK1 : Hid (¬ (d ∈ (lst D P n).map Prod.fst ∨ d ∈ W.map Prod.fst)) := hide (by rw [keys_lst]; exact hk)
  clear h hP hz hd hR hf hk
  unfold fetV at HFF HFO ⊢
  go_enter Tryz.func18, Tryz.ntmps18
  obtain ⟨⟨t0, t1, t2⟩, -, -, -⟩ := X0.out
  go_wp2_with fail
  clear t0 t1 t2
  generalize (w.alloc (.cells #[.slice wa W.length wk, .slice fa F.length fc, .slice ca n cc] 28)).alloc (.cells #[.int .i64 0, .slice none 0 0, .slice none 0 0, .slice none 0 0] 32) = W0 at *
  refine HFF.out.mono ?_
  rintro e w1 ⟨rfl, hb1⟩
  have B1 := hide (below_next B0.out hb1)
  have X1 := hide (X0.out.below hb1)
  have R1 := hide (R0.out.below hb1)
  clear hb1 X0 R0 B0 HFF
  go_wp2_with fail
  refine (HIS.out w1).mono ?_
  rintro e w1 ⟨rfl, rfl⟩
  obtain ⟨⟨t0, t1, t2⟩, -, -, -⟩ := X1.out
  go_wp2_with fail
  clear t0 t1 t2
  refine (HFO.out w1 B1.out).mono ?_
  rintro e w2 ⟨fb, rfl, hO, hfb, hb2⟩
  obtain ⟨va, vc, ps, ga, gc, bm, N, hN, hN1000⟩ := hO.now
  have B2 := hide (below_next B1.out hb2)
  have R2 := hide (R1.out.below hb2)
  have N2 := hide hN
  have hz2 := hb2.size
  have hr1 := R1.out.lt
  have hfl := hN.box.lt
  have hzw := B1.out.size
  clear hb2 hN hO R1 HFO HIS X1
  have HAS := hide (ask_new w1.heap.size fb W F (lst D P n) va vc ps ga gc bm N d w2 N2.out hfb hFl HOK.out HF1.out HK1.out hm)
  go_wp2_with fail
  refine HAS.out.mono ?_
  rintro e w3 ⟨rfl, ⟨ua, uc, p, hN3⟩, hb3⟩
  have N3 := hide hN3
  have hz3 := hb3.size
  have B3 := hide (B2.out.trans (hb3.mono (by omega)))
  have R3 := hide (R2.out.kept (S := fun b => fb ≤ b) ⟨hb3.os, hb3.tape, hb3.output, hb3.size, fun k hk hn => hb3.block k (by omega)⟩ (by omega))
  clear hb3 hN3 HAS R2 N2
  have hl2 : (lst D P n).length = n := lst_length D P n
  have HAN := hide (answer_nil fb ua uc (ps ++ [p]) (W ++ [(d, 0)]) ga gc F.length bm N w1.heap.size (lst D P n) w3 N3.out.box N3.out.wants.rd N3.out.held (by have := B3.out.size; omega) (by first | exact hWl | (simp; omega)) (by rw [hl2]; exact hn) (lst_small HRt.out))
  go_wp2_with fail
  refine HAN.out.mono ?_
  rintro e w4 ⟨xa, xc, ya, yc, rfl, hOW, hGC, hb4⟩
  rw [hl2] at hGC ⊢
  have OW4 := hide hOW
  have GC4 := hide (gc_right HRt.out hGC)
  have OF4 := hide (ownsRow_below N3.out.failed hb4)
  have B4 := hide (below_next B3.out hb4)
  obtain ⟨⟨m0, m1, m2, m3⟩, k0, k1, k2, k3⟩ := R3.out.below hb4
  have hz4 := hb4.size
  clear hOW hGC hb4
  have hWL : (W ++ [(d, (0 : Int))]).length = W.length + 1 := by simp
  go_wp2_with fail
  exact bodyPost_ret (v := .agg #[.int .i64 0, .slice xa (W ++ [(d, (0 : Int))]).length xc, .slice ga F.length gc, .slice ya n yc]) (by simp [results, Tryz.results18, go_sem, m0, m1, m2, m3]) rfl (ResF.box (B := w1.heap.size) (OW4.out.mono (by omega)) OF4.out (GC4.out.mono (by omega)) B4.out (by omega) (by omega))
end Go.Proofs.YtfamiehfpmjljaaGreatDoor

namespace Go.Proofs.YtfamiehfpmjljaaGreatDoor
open Go.RowKit Go.Maps
set_option linter.unusedVariables false

theorem inS_any (n a b : Int) (w : World) : Calls Tryz.prog 108 #[.int .i64 n, .int .i64 a, .int .i64 b] w fun e w' => e = .returned (.bool (decide (a ≤ n ∧ n ≤ b))) ∧ w' = w := by
  by_cases h0 : a ≤ n
  · by_cases h1 : n ≤ b
    · rw [decide_eq_true ⟨h0, h1⟩]
      go_enter Tryz.func108, Tryz.ntmps108
      go_wp2
      go_ret
      exact ⟨ret_bool (by simp <;> omega), rfl⟩
    · rw [decide_eq_false (fun h => h1 h.2)]
      go_enter Tryz.func108, Tryz.ntmps108
      go_wp2
      go_ret
      exact ⟨ret_bool (by simp <;> omega), rfl⟩
  · rw [decide_eq_false (fun h => h0 h.1)]
    go_enter Tryz.func108, Tryz.ntmps108
    go_wp2
    go_ret
    exact ⟨ret_bool (by simp <;> omega), rfl⟩
theorem dgS_any (n : Int) (w : World) : Calls Tryz.prog 73 #[.int .i64 n] w fun e w' => e = .returned (.bool (decide (okD n))) ∧ w' = w := by
  have h := inS_any n 0 4294967295 w
  go_enter Tryz.func73, Tryz.ntmps73
  go_wp2_with fail
  refine h.mono ?_
  rintro e w ⟨rfl, rfl⟩
  go_wp2
  go_ret
  exact ⟨ret_bool (by by_cases h0 : 0 ≤ n <;> by_cases h1 : n ≤ 4294967295 <;> simp [okD, h0, h1]), rfl⟩
set_option maxRecDepth 100000 in
set_option maxHeartbeats 800000 in
theorem l10At_yes (fb : Nat) (a : Option Addr) (c i : Nat) (W : List Wn) (d : Int) (w : World) (h0 : w.cell? ⟨fb, 0, none⟩ = some (.slice a W.length c)) (h : RdW w a W) (hl : W.length ≤ 1048576) (hi : i < W.length) (hd : (W.getD i (0, 0)).1 = d) (hf : ∀ j, j < i → (W.getD j (0, 0)).1 ≠ d) :
    Calls Tryz.prog 48 #[.pointer (some ⟨fb, 0, none⟩), .int .i64 d] w fun e w' => e = .returned (.int .i64 i) ∧ w' = w := by
  obtain ⟨b1, o1, rfl, hb1, hc1⟩ := h (by intro e; simp [e] at hi)
  have HC := hide hc1
  have HF := hide hf
  have HD := hide hd
  clear h hc1 hf hd
  go_enter Tryz.func48, Tryz.ntmps48
  go_wp2
  go_loop [5] (fun q => ∃ k : Nat, k ≤ i ∧ q = .int .i64 k) (fun q => W.length - (intOf q).toNat)
  case atStart => exact ⟨0, Nat.zero_le _, rfl⟩
  case round =>
    obtain ⟨k, hk, rfl⟩ := hrel
    have hlt : k < W.length := by omega
    obtain ⟨c1, -⟩ := HC.out k hlt
    by_cases e : k = i
    · subst e
      rw [HD.out] at c1
      go_wp2
      go_ret
      exact ⟨rfl, rfl⟩
    · have hne : ((W.getD k (0, 0)).1 == d) = false := by simpa using HF.out k (by omega)
      generalize (W.getD k (0, 0)).1 = dd at c1 hne
      go_wp2
      go_round
      case rel => exact ⟨k + 1, by omega, by go_num⟩
      case measure => simp [intOf]; omega
set_option maxRecDepth 100000 in
set_option maxHeartbeats 800000 in
theorem l10At_no (fb : Nat) (a : Option Addr) (c : Nat) (W : List Wn) (d : Int) (w : World) (h0 : w.cell? ⟨fb, 0, none⟩ = some (.slice a W.length c)) (h : RdW w a W) (hl : W.length ≤ 1048576) (hf : ∀ j, j < W.length → (W.getD j (0, 0)).1 ≠ d) :
    Calls Tryz.prog 48 #[.pointer (some ⟨fb, 0, none⟩), .int .i64 d] w fun e w' => e = .returned (.int .i64 (-1)) ∧ w' = w := by
  have HC := hide h
  have HF := hide hf
  clear h hf
  go_enter Tryz.func48, Tryz.ntmps48
  go_wp2
  go_loop [5] (fun q => ∃ k : Nat, k ≤ W.length ∧ q = .int .i64 k) (fun q => W.length - (intOf q).toNat)
  case atStart => exact ⟨0, Nat.zero_le _, rfl⟩
  case round =>
    obtain ⟨k, hk, rfl⟩ := hrel
    by_cases hlt : k < W.length
    · obtain ⟨b1, o1, rfl, hb1, hc1⟩ := HC.out (by intro e; simp [e] at hlt)
      obtain ⟨c1, -⟩ := hc1 k hlt
      clear hc1
      have hne : ((W.getD k (0, 0)).1 == d) = false := by simpa using HF.out k hlt
      generalize (W.getD k (0, 0)).1 = dd at c1 hne
      go_wp2
      go_round
      case rel => exact ⟨k + 1, by omega, by go_num⟩
      case measure => simp [intOf]; omega
    · go_wp2
      go_ret
      exact ⟨rfl, rfl⟩
theorem first_take {W : List Wn} {k : Nat} {d : Int} (hk : k < W.length) (hd : (W.getD k (0, 0)).1 = d) : (∃ i, i < k ∧ (W.getD i (0, 0)).1 = d ∧ ∀ j, j < i → (W.getD j (0, 0)).1 ≠ d) ∧ d ∈ (W.take k).map Prod.fst ∨ (∀ j, j < k → (W.getD j (0, 0)).1 ≠ d) ∧ d ∉ (W.take k).map Prod.fst := by
  have hg : ∀ i, i < k → (W.take k).getD i (0, 0) = W.getD i (0, 0) := fun i hi => by simp [List.getD_eq_getElem?_getD, hi]
  have hl : (W.take k).length = k := by simp; omega
  by_cases h : d ∈ (W.take k).map Prod.fst
  · obtain ⟨i, hi, e⟩ := mem_keys.1 h
    rw [hl] at hi
    rw [hg i hi] at e
    obtain ⟨j, hj, e1, e2⟩ := first_at (D := fun i => (W.getD i (0, 0)).1) ⟨i, hi, e⟩
    exact Or.inl ⟨⟨j, hj, e1, e2⟩, h⟩
  · refine Or.inr ⟨fun j hj e => h (mem_keys.2 ⟨j, by rw [hl]; exact hj, by rw [hg j hj]; exact e⟩), h⟩
abbrev Lat (w : World) := InW (fun x => Below w.heap.size w x)
theorem lat_some (w : World) : Nonempty (Lat w) := ⟨⟨w, Below.refl _ _⟩⟩
theorem lat_same {f : FuncId} {args : Array Value} {w : World} {v : Value} (h : ∀ u : Lat w, Calls Tryz.prog f args u.val fun e w' => e = .returned v ∧ w' = u.val) : ∀ u : Lat w, Calls Tryz.prog f args u.val fun e w' => e = .returned v ∧ ∃ x : Lat w, w' = x.val := fun u => (h u).mono (fun e w' ⟨he, hw⟩ => ⟨he, u, hw⟩)
set_option maxRecDepth 100000 in
set_option maxHeartbeats 3200000 in
theorem l10Wants_any (fb : Nat) (wa : Option Addr) (wc : Nat) (W : List Wn) (fa : Option Addr) (fc : Nat) (F : List Int) (ca : Option Addr) (cc n : Nat) (D : Nat → Int) (P : Nat → List Int) (w : World) (hX : Bx3 w fb (.slice wa W.length wc) (.slice fa F.length fc) (.slice ca n cc)) (h : RdF w wa W fa F ca D P n) (hn : n ≤ 1048576) (hWl : W.length ≤ 1048576) (hFl : F.length ≤ 1048576) :
    Calls Tryz.prog 91 #[.pointer (some ⟨fb, 0, none⟩)] w fun e w' => e = .returned (.int .i64 (firstBad (wFault W F (keysC D n)) 0 W.length)) ∧ Below w.heap.size w w' := by
  have HX := hide hX
  have HW := hide h.wants
  have HF := hide h.failed
  have HC := hide h.chunks
  clear hX h
  go_enter Tryz.func91, Tryz.ntmps91
  go_wp2_with fail
  go_loopw [3, 4] (fun i _ wr => ∃ k : Nat, k ≤ W.length ∧ i = .int .i64 k ∧ Hid (Below w.heap.size w wr) ∧ Hid (firstBad (wFault W F (keysC D n)) 0 W.length = firstBad (wFault W F (keysC D n)) k (W.length - k))) (fun i _ _ => W.length - (intOf i).toNat)
  case atStart => exact ⟨0, Nat.zero_le _, rfl, hide (Below.refl _ _), hide rfl⟩
  case round =>
    obtain ⟨k, hk, rfl, BW, FB⟩ := hrel
    obtain ⟨⟨x0, x1, x2⟩, -, -, -⟩ := HX.out.below BW.out
    by_cases hlt : k < W.length
    · obtain ⟨b1, o1, rfl, hb1, hc1⟩ := HW.out (by intro e; simp [e] at hlt)
      obtain ⟨c1, c2⟩ := hc1 k hlt
      have c1 := (BW.out.cell (p := ⟨b1, o1 + k * 2, none⟩) hb1).trans c1
      have c2 := (BW.out.cell (p := ⟨b1, o1 + k * 2 + 1, none⟩) hb1).trans c2
      generalize hd : (W.getD k (0, 0)).1 = d at c1
      generalize ht : (W.getD k (0, 0)).2 = t at c2
      have HD := hide hd
      have HT := hide ht
      have hFT := first_take hlt hd
      clear hd ht hc1
      have A1 := hide (below_alloc wr (.cells #[.int .i64 d, .int .i64 t] 120))
      have hklt : (k : Int) < (W.length : Int) := by omega
      by_cases hok : okD d ∧ 0 ≤ t ∧ t < 3
      · obtain ⟨hd, ht0, ht3⟩ := hok
        have HOK := hide (And.intro hd (And.intro ht0 ht3))
        have hdk : decide (okD d) = true := decide_eq_true hd
        have hin : decide ((0 : Int) ≤ t ∧ t ≤ 2) = true := decide_eq_true (by omega)
        clear hd ht0 ht3
        go_wp2_with fail
        refine (dgS_any d _).mono ?_
        rintro e w' ⟨rfl, rfl⟩
        rw [hdk]
        go_wp2_with fail
        refine (inS_any t 0 2 _).mono ?_
        rintro e w' ⟨rfl, rfl⟩
        rw [hin]
        clear x0 x1 x2 c1 c2 hdk hin
        have P1 := hide (Two.new wr (.int .i64 d) (.int .i64 t) 120)
        have B1 := hide (below_next BW.out A1.out)
        go_upto_region 7 with fail
        generalize wr.alloc (.cells #[.int .i64 d, .int .i64 t] 120) = W1 at *
        generalize wr.heap.size = p at *
        clear A1 BW
        have f1 : ∀ u : Lat W1, u.val.cell? ⟨p, 0, none⟩ = some (.int .i64 d) := fun u => (P1.out.below u.ok).1
        have f2 : ∀ u : Lat W1, u.val.cell? ⟨fb, 1, none⟩ = some (.slice fa F.length fc) := fun u => ((HX.out.below B1.out).below u.ok).1.2.1
        have f3 : ∀ u : Lat W1, u.val.cell? ⟨fb, 2, none⟩ = some (.slice ca n cc) := fun u => ((HX.out.below B1.out).below u.ok).1.2.2
        have hne := lat_some W1
        rcases hFT with ⟨⟨i, hi, hi1, hi2⟩, hmem⟩ | ⟨hfst, hmem⟩
        · have HFF := hide (wFault_taken (F := F) (C := keysC D n) HD.out HT.out HOK.out (Or.inr (Or.inr hmem)))
          have C1 := hide (lat_same fun u : Lat W1 => l10At_yes fb (some ⟨b1, o1, none⟩) wc i W d u.val ((HX.out.below B1.out).below u.ok).1.1 ((HW.out.below B1.out).below u.ok) hWl (by omega) hi1 hi2)
          have hik : ((i : Int) != (k : Int)) = true := by simp; omega
          clear hmem hi1 hi2
          refine wp_region_inv (Inv := fun x => Below W1.heap.size W1 x) (by kernel_rfl) (by kernel_rfl) (Below.refl _ _).drew ?_
          repeat (first | go_big_quiet_step (first | (go_at_call 48; exact C1.out _)) | quiet_step (fail))
          refine wpQuiet_nil ?_
          intro _ hw'
          obtain ⟨u, hw''⟩ := hw'
          subst hw''
          have B7 := hide (below_next B1.out u.ok)
          go_wp2_with fail
          go_ret
          exact ⟨ret_int (by rw [FB.out, firstBad_hit hlt HFF.out]), B7.out⟩
        · have C1 := hide (lat_same fun u : Lat W1 => l10At_yes fb (some ⟨b1, o1, none⟩) wc k W d u.val ((HX.out.below B1.out).below u.ok).1.1 ((HW.out.below B1.out).below u.ok) hWl hlt HD.out hfst)
          have C2 := hide (lat_same fun u : Lat W1 => l2Among_any fa fc F d u.val ((HF.out.below B1.out).below u.ok) hFl)
          have hik : ((k : Int) != (k : Int)) = false := by simp
          by_cases hf : d ∈ F
          · have HFF := hide (wFault_taken (F := F) (C := keysC D n) HD.out HT.out HOK.out (Or.inr (Or.inl hf)))
            rw [show F.contains d = true by simpa using hf] at C2
            clear hmem hf hfst
            refine wp_region_inv (Inv := fun x => Below W1.heap.size W1 x) (by kernel_rfl) (by kernel_rfl) (Below.refl _ _).drew ?_
            repeat (first | go_big_quiet_step (first | (go_at_call 48; exact C1.out _) | (go_at_call 66; exact C2.out _)) | quiet_step (fail))
            refine wpQuiet_nil ?_
            intro _ hw'
            obtain ⟨u, hw''⟩ := hw'
            subst hw''
            have B7 := hide (below_next B1.out u.ok)
            go_wp2_with fail
            go_ret
            exact ⟨ret_int (by rw [FB.out, firstBad_hit hlt HFF.out]), B7.out⟩
          · rw [show F.contains d = false by simpa using hf] at C2
            by_cases hc : d ∈ keysC D n
            · have HFF := hide (wFault_taken (F := F) (C := keysC D n) HD.out HT.out HOK.out (Or.inl hc))
              obtain ⟨i, hi, hi1, hi2⟩ := first_at (mem_keysC.1 hc)
              have C3 := hide (lat_same fun u : Lat W1 => l2At_yes ca cc n i d D P u.val ((HC.out.below B1.out).below u.ok) hn hi hi1 hi2)
              have hi0 : (0 : Int) ≤ (i : Int) := by omega
              clear hmem hf hfst hi1 hi2 hc
              refine wp_region_inv (Inv := fun x => Below W1.heap.size W1 x) (by kernel_rfl) (by kernel_rfl) (Below.refl _ _).drew ?_
              repeat (first | go_big_quiet_step (first | (go_at_call 48; exact C1.out _) | (go_at_call 66; exact C2.out _) | (go_at_call 92; exact C3.out _)) | quiet_step (fail))
              refine wpQuiet_nil ?_
              intro _ hw'
              obtain ⟨u, hw''⟩ := hw'
              subst hw''
              have B7 := hide (below_next B1.out u.ok)
              go_wp2_with fail
              go_ret
              exact ⟨ret_int (by rw [FB.out, firstBad_hit hlt HFF.out]), B7.out⟩
            · have HFF := hide (wFault_none (F := F) (C := keysC D n) HD.out HT.out HOK.out (fun h => h.elim hc (fun h => h.elim hf hmem)))
              have C3 := hide (lat_same fun u : Lat W1 => l2At_no ca cc n d D P u.val ((HC.out.below B1.out).below u.ok) hn (fun j hj e => hc (mem_keysC.2 ⟨j, hj, e⟩)))
              clear hmem hf hfst hc
              refine wp_region_inv (Inv := fun x => Below W1.heap.size W1 x) (by kernel_rfl) (by kernel_rfl) (Below.refl _ _).drew ?_
              repeat (first | go_big_quiet_step (first | (go_at_call 48; exact C1.out _) | (go_at_call 66; exact C2.out _) | (go_at_call 92; exact C3.out _)) | quiet_step (fail))
              refine wpQuiet_nil ?_
              intro _ hw'
              obtain ⟨u, hw''⟩ := hw'
              subst hw''
              have B7 := hide (below_next B1.out u.ok)
              go_wp2_with fail
              go_roundw
              case rel => exact ⟨k + 1, by omega, by go_num, B7, hide (by rw [FB.out, firstBad_miss hlt HFF.out])⟩
              case measure => simp [intOf]; omega
      · have HFF := hide (wFault_range (F := F) (C := keysC D n) HD.out HT.out hok)
        by_cases hd : okD d
        · have hdk : decide (okD d) = true := decide_eq_true hd
          have hin : decide ((0 : Int) ≤ t ∧ t ≤ 2) = false := decide_eq_false (fun h => hok ⟨hd, by omega, by omega⟩)
          go_wp2_with fail
          refine (dgS_any d _).mono ?_
          rintro e w' ⟨rfl, rfl⟩
          rw [hdk]
          go_wp2_with fail
          refine (inS_any t 0 2 _).mono ?_
          rintro e w' ⟨rfl, rfl⟩
          rw [hin]
          go_wp2_with fail
          go_ret
          exact ⟨ret_int (by rw [FB.out, firstBad_hit hlt HFF.out]), below_next BW.out A1.out⟩
        · have hdk : decide (okD d) = false := decide_eq_false hd
          go_wp2_with fail
          refine (dgS_any d _).mono ?_
          rintro e w' ⟨rfl, rfl⟩
          rw [hdk]
          go_wp2_with fail
          go_ret
          exact ⟨ret_int (by rw [FB.out, firstBad_hit hlt HFF.out]), below_next BW.out A1.out⟩
    · have hkl : k = W.length := by omega
      subst hkl
      go_wp2_with fail
      go_ret
      exact ⟨ret_int (by rw [FB.out, firstBad_end (Nat.le_refl _)]), BW.out⟩
theorem Reads.take {k : IntKind} {w : World} {a : Option Addr} {zs : List Int} (h : Reads k w a zs) (m : Nat) : Reads k w a (zs.take m) := by
  intro hz
  have hp : zs ≠ [] := by rintro rfl; simp at hz
  obtain ⟨b, off, rfl, hb, hc⟩ := h hp
  refine ⟨b, off, rfl, hb, fun i hi => ?_⟩
  have hi' : i < m ∧ i < zs.length := by simpa [Nat.lt_min] using hi
  rw [hc i hi'.2]
  simp [List.getD_eq_getElem?_getD, hi'.1]
set_option maxRecDepth 100000 in
set_option maxHeartbeats 3200000 in
theorem l10Fault_any (fb : Nat) (wa : Option Addr) (wc : Nat) (W : List Wn) (fa : Option Addr) (fc : Nat) (F : List Int) (ca : Option Addr) (cc n : Nat) (D : Nat → Int) (P : Nat → List Int) (w : World) (hX : Bx3 w fb (.slice wa W.length wc) (.slice fa F.length fc) (.slice ca n cc)) (h : RdF w wa W fa F ca D P n) (hn : n ≤ 1048576) (hP : SmallP P n) (hWl : W.length ≤ 1048576) (hFl : F.length ≤ 1048576) (hfc : F.length ≤ fc) :
    Calls Tryz.prog 46 #[.pointer (some ⟨fb, 0, none⟩)] w fun e w' => e = .returned (.int .i64 (fetFault W F D P n)) ∧ Below w.heap.size w w' := by
  have HX := hide hX
  have HR := hide h
  have HP := hide hP
  clear hX h hP
  go_enter Tryz.func46, Tryz.ntmps46
  obtain ⟨⟨t0, t1, t2⟩, -, -, -⟩ := HX.out
  go_wp2_with fail
  clear t0 t1 t2
  refine (specFault_any ca cc n D P w HR.out.chunks hn HP.out).mono ?_
  rintro r w1 ⟨rfl, hb1⟩
  have B1 := hide hb1
  have X1 := hide (HX.out.below hb1)
  clear hb1
  by_cases hf : fault D P n = 0
  · have HE := hide (show fetFault W F D P n = listsFault W F (keysC D n) by rw [fetFault, hf]; simp)
    rw [hf]
    clear hf
    obtain ⟨⟨t0, t1, t2⟩, -, -, -⟩ := X1.out
    by_cases hw : 12 < W.length
    · have hw1 : (12 : Int) < (W.length : Int) := by omega
      have HL := hide (show listsFault W F (keysC D n) = 2 by rw [listsFault, if_pos (Or.inl hw)])
      go_wp2_with fail
      go_ret
      exact ⟨ret_int (by rw [HE.out, HL.out]), B1.out⟩
    · have hw1 : ¬ (12 : Int) < (W.length : Int) := by omega
      by_cases hff : 40 < F.length
      · have hf1 : (40 : Int) < (F.length : Int) := by omega
        have HL := hide (show listsFault W F (keysC D n) = 2 by rw [listsFault, if_pos (Or.inr hff)])
        go_wp2_with fail
        go_ret
        exact ⟨ret_int (by rw [HE.out, HL.out]), B1.out⟩
      · have hf1 : ¬ (40 : Int) < (F.length : Int) := by omega
        have HL := hide (show listsFault W F (keysC D n) = if firstBad (wFault W F (keysC D n)) 0 W.length ≠ 0 then firstBad (wFault W F (keysC D n)) 0 W.length else firstBad (fFault F (keysC D n)) 0 F.length by rw [listsFault, if_neg (by omega)])
        have HLL := hide (HE.out.trans HL.out)
        have HWF := hide (l10Wants_any fb wa wc W fa fc F ca cc n D P w1 X1.out (HR.out.below B1.out) hn hWl hFl)
        clear HL HE
        generalize firstBad (wFault W F (keysC D n)) 0 W.length = A at *
        go_wp2_with fail
        refine HWF.out.mono ?_
        rintro r w2 ⟨rfl, hb2⟩
        have X2 := hide (X1.out.below hb2)
        have B2 := hide (below_next B1.out hb2)
        clear hb2 HWF X1 B1 t0 t1 t2
        by_cases hA : A = 0
        · subst hA
          have HLF := hide (show fetFault W F D P n = firstBad (fFault F (keysC D n)) 0 F.length by rw [HLL.out]; simp)
          clear HLL
          go_wp2_with fail
          go_loopw [5] (fun i wr => ∃ k : Nat, k ≤ F.length ∧ i = .int .i64 k ∧ Hid (Below w2.heap.size w2 wr) ∧ Hid (firstBad (fFault F (keysC D n)) 0 F.length = firstBad (fFault F (keysC D n)) k (F.length - k))) (fun i _ => F.length - (intOf i).toNat)
          case atStart => exact ⟨0, Nat.zero_le _, rfl, hide (Below.refl _ _), hide rfl⟩
          case round =>
            obtain ⟨k, hk, rfl, BW, FB⟩ := hrel
            obtain ⟨⟨x0, x1, x2⟩, -, -, -⟩ := X2.out.below BW.out
            have BWW := hide (below_next B2.out BW.out)
            by_cases hlt : k < F.length
            · obtain ⟨b1, o1, hfa, hb1, hc1⟩ := HR.out.failed (by intro e; simp [e] at hlt)
              subst hfa
              have hcc := hc1 k hlt
              have c1 := (BWW.out.cell (p := ⟨b1, o1 + k, none⟩) hb1).trans hcc
              generalize hd : F.getD k 0 = d at hcc c1
              have HD := hide hd
              have hklt : (k : Int) < (F.length : Int) := by omega
              have hk0 : (0 : Int) ≤ (k : Int) := by omega
              clear hd hc1
              by_cases hd : okD d
              · have HOK := hide hd
                have hdk : decide (okD d) = true := decide_eq_true hd
                clear hd
                go_wp2_with fail
                refine (dgS_any d _).mono ?_
                rintro e wr ⟨rfl, rfl⟩
                rw [hdk]
                clear hdk
                go_upto_region 14 with fail
                clear x0 x1 x2 c1
                have f1 : ∀ u : Lat wr, u.val.cell? ⟨fb, 1, none⟩ = some (.slice (some ⟨b1, o1, none⟩) F.length fc) := fun u => ((X2.out.below BW.out).below u.ok).1.2.1
                have f2 : ∀ u : Lat wr, u.val.cell? ⟨fb, 2, none⟩ = some (.slice ca n cc) := fun u => ((X2.out.below BW.out).below u.ok).1.2.2
                have f3 : ∀ u : Lat wr, u.val.cell? ⟨b1, o1 + k, none⟩ = some (.int .i64 d) := fun u => ((below_next BWW.out u.ok).cell (p := ⟨b1, o1 + k, none⟩) hb1).trans hcc
                have hne := lat_some wr
                have hlk : (F.take k).length = k := by simp; omega
                have hkc : (k : Int) ≤ (fc : Int) := by omega
                have C2 : Hid (∀ u : Lat wr, Calls Tryz.prog 66 #[.slice (some ⟨b1, o1, none⟩) k fc, .int .i64 d] u.val fun e w' => e = .returned (.bool ((F.take k).contains d)) ∧ ∃ x : Lat wr, w' = x.val) := hide (lat_same fun u : Lat wr => by
                  have h1 := l2Among_any (some ⟨b1, o1, none⟩) fc (F.take k) d u.val (((HR.out.failed.below BWW.out).below u.ok).take k) (by omega)
                  rw [hlk] at h1
                  exact h1)
                clear hcc hlk
                by_cases hf : d ∈ F.take k
                · have HFF := hide (fFault_taken (C := keysC D n) HD.out HOK.out (Or.inr hf))
                  rw [show (F.take k).contains d = true by simpa using hf] at C2
                  clear hf
                  refine wp_region_inv (Inv := fun x => Below wr.heap.size wr x) (by kernel_rfl) (by kernel_rfl) (Below.refl _ _).drew ?_
                  repeat (first | go_big_quiet_step (first | (go_at_call 66; exact C2.out _)) | quiet_step (fail))
                  refine wpQuiet_nil ?_
                  intro _ hw'
                  obtain ⟨u, hw''⟩ := hw'
                  subst hw''
                  have B7 := hide (below_next BWW.out u.ok)
                  go_wp2_with fail
                  go_ret
                  exact ⟨ret_int (by rw [HLF.out, FB.out, firstBad_hit hlt HFF.out]), B7.out⟩
                · rw [show (F.take k).contains d = false by simpa using hf] at C2
                  by_cases hc : d ∈ keysC D n
                  · have HFF := hide (fFault_taken (F := F) HD.out HOK.out (Or.inl hc))
                    obtain ⟨i, hi, hi1, hi2⟩ := first_at (mem_keysC.1 hc)
                    have C3 := hide (lat_same fun u : Lat wr => l2At_yes ca cc n i d D P u.val ((HR.out.chunks.below BWW.out).below u.ok) hn hi hi1 hi2)
                    have hi0 : (0 : Int) ≤ (i : Int) := by omega
                    clear hf hi1 hi2 hc
                    refine wp_region_inv (Inv := fun x => Below wr.heap.size wr x) (by kernel_rfl) (by kernel_rfl) (Below.refl _ _).drew ?_
                    repeat (first | go_big_quiet_step (first | (go_at_call 66; exact C2.out _) | (go_at_call 92; exact C3.out _)) | quiet_step (fail))
                    refine wpQuiet_nil ?_
                    intro _ hw'
                    obtain ⟨u, hw''⟩ := hw'
                    subst hw''
                    have B7 := hide (below_next BWW.out u.ok)
                    go_wp2_with fail
                    go_ret
                    exact ⟨ret_int (by rw [HLF.out, FB.out, firstBad_hit hlt HFF.out]), B7.out⟩
                  · have HFF := hide (fFault_none (C := keysC D n) HD.out HOK.out (fun h => h.elim hc hf))
                    have C3 := hide (lat_same fun u : Lat wr => l2At_no ca cc n d D P u.val ((HR.out.chunks.below BWW.out).below u.ok) hn (fun j hj e => hc (mem_keysC.2 ⟨j, hj, e⟩)))
                    clear hf hc
                    refine wp_region_inv (Inv := fun x => Below wr.heap.size wr x) (by kernel_rfl) (by kernel_rfl) (Below.refl _ _).drew ?_
                    repeat (first | go_big_quiet_step (first | (go_at_call 66; exact C2.out _) | (go_at_call 92; exact C3.out _)) | quiet_step (fail))
                    refine wpQuiet_nil ?_
                    intro _ hw'
                    obtain ⟨u, hw''⟩ := hw'
                    subst hw''
                    have B7 := hide (below_next BW.out u.ok)
                    go_wp2_with fail
                    go_roundw
                    case rel => exact ⟨k + 1, by omega, by go_num, B7, hide (by rw [FB.out, firstBad_miss hlt HFF.out])⟩
                    case measure => simp [intOf]; omega
              · have HFF := hide (fFault_range (C := keysC D n) HD.out hd)
                have hdk : decide (okD d) = false := decide_eq_false hd
                go_wp2_with fail
                refine (dgS_any d _).mono ?_
                rintro e wr ⟨rfl, rfl⟩
                rw [hdk]
                go_wp2_with fail
                go_ret
                exact ⟨ret_int (by rw [HLF.out, FB.out, firstBad_hit hlt HFF.out]), BWW.out⟩
            · have hkl : k = F.length := by omega
              subst hkl
              go_wp2_with fail
              go_ret
              exact ⟨ret_int (by rw [HLF.out, FB.out, firstBad_end (Nat.le_refl _)]), BWW.out⟩
        · have hA1 : (A != 0) = true := by simpa using hA
          go_wp2_with fail
          go_ret
          exact ⟨ret_int (by rw [HLL.out, if_pos hA]), B2.out⟩
  · have hf1 : (fault D P n != 0) = true := by simpa using hf
    have HE := hide (show fetFault W F D P n = fault D P n by rw [fetFault, if_pos hf])
    generalize fault D P n = A at *
    clear hf
    go_wp2_with fail
    go_ret
    exact ⟨ret_int (by rw [HE.out]), B1.out⟩
end Go.Proofs.YtfamiehfpmjljaaGreatDoor

