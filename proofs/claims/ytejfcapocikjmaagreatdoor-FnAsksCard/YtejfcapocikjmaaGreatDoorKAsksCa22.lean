/-
  Texts put together: FetBj.
-/
import Derived.Test.YtejfcapocikjmaaGreatDoorKAsksCa21
import Derived.Test.YtejfcapocikjmaaGreatDoorKAsksCa13
import Derived.Deep.RegionHeld3
import Derived.Deep.CutBlock
namespace Go.Proofs.YtejfcapocikjmaaGreatDoor.fnAsks
open Go.ChangeShapes Go.WideShapes Go.ChangeAt Go.RowKit Go.Maps
set_option linter.unusedVariables false
set_option maxHeartbeats 400000 in
theorem lwBig_no (a : Option Addr) (cap : Nat) (n : Nat) (w : World) (h : n ≤ 1048576) :
    Calls Tryz.prog 4 #[.slice a n cap] w fun e w' => e = .returned (.bool false) ∧ w' = w := by
  have hb : ¬ (1048576 : Int) < (n : Int) := by omega
  go_enter Tryz.func4, Tryz.ntmps4
  go_wp2
  go_ret
  exact ⟨rfl, rfl⟩
set_option maxHeartbeats 400000 in
theorem lwBig_yes (a : Option Addr) (cap : Nat) (n : Nat) (w : World) (h : 1048576 < n) (h2 : n ≤ maxLen) :
    Calls Tryz.prog 4 #[.slice a n cap] w fun e w' => e = .returned (.bool true) ∧ w' = w := by
  have hb : (1048576 : Int) < (n : Int) := by omega
  go_enter Tryz.func4, Tryz.ntmps4
  go_wp2
  go_ret
  exact ⟨rfl, rfl⟩
theorem tk {P : Program} {ops : Array Oper} {Q : Exit → Act → World → Prop} {md : Region.Mode} {S : World → Prop} (i d : Nat) (v : Value) {op : Op} {ty : TypeId} {pos : String} {af : Array Edge} {gd : Option (Nat × Bool)} {fuel : Nat} {listed : Array Bool} {a : Act} {w : World} (hS : S w) (hi : ops[i]? = some { dst := some d, op := op, type := ty, pos := pos, after := af, guard := gd })
    (hs : Region.noSelect ops = true) (hf : Region.free md ops listed i = true) (hr : (Region.ready md ops listed).contains i = true) (hQ : ∀ c a w, Q (.panic c) (a.put (some d) v) w → Q (.panic c) a w) (hy : YieldsIf P ops S { dst := some d, op := op, type := ty, pos := pos, after := af, guard := gd } v a)
    (h : wpAnyH P md ops Q S fuel (listed.setIfInBounds i true) (a.put (some d) v) w) : wpAnyH P md ops Q S (fuel + 1) listed a w := wpAnyH_take hi hs hf hr hQ hy hS h
def cnt (K ds : List Int) (k : Nat) : Nat := ((ds.take k).filter (fun d => decide (d ∉ K))).length
theorem cnt_le {K ds : List Int} {k : Nat} : cnt K ds k ≤ k := by
  have h1 := List.length_filter_le (fun d => decide (d ∉ K)) (ds.take k)
  have h2 := List.length_take_le k ds
  unfold cnt
  omega
theorem cnt_step {K ds : List Int} {k : Nat} (h : k < ds.length) : cnt K ds (k + 1) = cnt K ds k + if ds.getD k 0 ∈ K then 0 else 1 := by
  have hg : ds[k]? = some (ds.getD k 0) := by rw [List.getD_eq_getElem?_getD, List.getElem?_eq_getElem h]; rfl
  unfold cnt
  rw [List.take_add_one, hg, List.filter_append, List.length_append]
  generalize ds.getD k 0 = d
  by_cases hd : d ∈ K <;> simp [hd]
theorem cnt_all {K ds : List Int} : cnt K ds ds.length = (ds.filter (fun d => decide (d ∉ K))).length := by unfold cnt; rw [List.take_length]
set_option maxRecDepth 100000 in
set_option maxHeartbeats 25600000 in
theorem walk (HBent : BentC) (w : World) (e0 e1 : Addr) (hg : Ge w e0 e1) (a0 : Option Addr) (cap0 : Nat) (zs : List Int) (h : Reads .u8 w a0 zs) (hu : U8 zs) (hmax : zs.length ≤ maxLen) :
    Calls Tryz.prog 3 #[.slice a0 zs.length cap0] w fun e w' => e = .returned (.bool true) ∧ Below w.heap.size w w' := by
  by_cases hbig : 1048576 < zs.length
  · go_enter Tryz.func3, Tryz.ntmps3
    go_wp2_with fail
    refine (lwBig_yes _ _ _ _ hbig hmax).mono ?_
    rintro e w1 ⟨rfl, rfl⟩
    go_wp2_with fail
    go_ret
    exact ⟨rfl, Below.refl _ _⟩
  · have hl : zs.length ≤ 1048576 := by omega
    have HR := hide h
    have HU := hide hu
    have HG := hide hg
    clear h hu hbig hmax hg
    go_enter Tryz.func3, Tryz.ntmps3
    go_wp2_with fail
    refine (lwBig_no _ _ _ _ hl).mono ?_
    rintro e w0 ⟨rfl, rfl⟩
    go_wp2_with fail
    refine (drawAskLayer_e HBent a0 cap0 zs _ HR.out HU.out hl).mono ?_
    rintro e w1 ⟨wa, wk, W, fa, fc, F, ca, cc, n, D, P, la, lc, es, rfl, hr1, hfc, hsm, hgd, hel, hes, hd1, hb1⟩
    have hcase := asks W F D P n es hsm hgd hel hes
    have A1 := hide (below_alloc w1 (.cells #[.slice wa W.length wk, .slice fa F.length fc, .slice ca n cc] 28))
    have X1 := hide (Bx3.new w1 (.slice wa W.length wk) (.slice fa F.length fc) (.slice ca n cc) 28)
    have F1 := hide (hr1.below A1.out)
    have L1 := hide (hd1.below A1.out)
    have B1 := hide (below_next hb1 A1.out)
    have HSm := hide hsm
    clear hr1 hd1 hb1 hsm HR hgd hes
    rcases hcase with ⟨q, hq, hsp, him⟩ | ⟨ds, V, hN, hkn, hdl, hcnt, hci, hsp, him, hag⟩
    · have HI := hide (him wa wk fa fc ca cc la lc _ e0 e1 (HG.out.below B1.out) F1.out L1.out)
      have HSp := hide (fun (u : World) (hb : Below (w1.alloc (.cells #[.slice wa W.length wk, .slice fa F.length fc, .slice ca n cc] 28)).heap.size (w1.alloc (.cells #[.slice wa W.length wk, .slice fa F.length fc, .slice ca n cc] 28)) u) => hsp wa wk fa fc ca cc la lc u (F1.out.below hb) hfc (L1.out.below hb))
      unfold fetV at HI HSp
      have hne : (q != 0) = true := by simpa using hq
      clear hsp him hq
      obtain ⟨⟨t0, t1, t2⟩, -, -, -⟩ := X1.out
      go_wp2_with fail
      clear t0 t1 t2
      generalize w1.alloc (.cells #[.slice wa W.length wk, .slice fa F.length fc, .slice ca n cc] 28) = W1 at *
      obtain ⟨fb, hfb⟩ : ∃ fb, fb = w1.heap.size := ⟨_, rfl⟩
      rw [← hfb] at X1 ⊢
      clear hfb A1
      refine HI.out.mono ?_
      rintro e w2 hres
      obtain ⟨x1, x2, x3, x4, x5, x6, rfl, hg2, hb2⟩ := hres.gf
      have A2 := hide (below_alloc w2 (.cells #[.int .i64 q, .slice x1 0 x2, .slice x3 0 x4, .slice x5 0 x6] 33))
      have Q2 := hide (Bx4.new w2 (.int .i64 q) (.slice x1 0 x2) (.slice x3 0 x4) (.slice x5 0 x6) 33)
      have X2 := hide ((X1.out.below hb2).below A2.out)
      have BB := hide (below_next hb2 A2.out)
      clear hres hg2 hb2 HI
      obtain ⟨⟨t0, t1, t2⟩, -, -, -⟩ := X2.out
      obtain ⟨⟨m0, m1, m2, m3⟩, -, -, -, -⟩ := Q2.out
      go_upto_region 6 with fail
      clear t0 t1 t2 m0 m1 m2 m3
      generalize w2.alloc (.cells #[.int .i64 q, .slice x1 0 x2, .slice x3 0 x4, .slice x5 0 x6] 33) = W2 at *
      obtain ⟨rb, hrb⟩ : ∃ rb, rb = w2.heap.size := ⟨_, rfl⟩
      rw [← hrb] at Q2 ⊢
      clear hrb A2
      have KB : Hid (∀ u : World, Below W2.heap.size W2 u → (u.cell? ⟨fb, 0, none⟩ = some (.slice wa W.length wk) ∧ u.cell? ⟨fb, 1, none⟩ = some (.slice fa F.length fc) ∧ u.cell? ⟨fb, 2, none⟩ = some (.slice ca n cc)) ∧ u.cell? ⟨rb, 0, none⟩ = some (.int .i64 q)) := hide (fun u hb => ⟨(X2.out.below hb).1, (Q2.out.below hb).1.1⟩)
      obtain ⟨⟨t0, t1, t2⟩, m0⟩ := KB.out W2 (Below.refl _ _)
      go_region_held3 (fun u => (u.cell? ⟨fb, 0, none⟩ = some (.slice wa W.length wk) ∧ u.cell? ⟨fb, 1, none⟩ = some (.slice fa F.length fc) ∧ u.cell? ⟨fb, 2, none⟩ = some (.slice ca n cc)) ∧ u.cell? ⟨rb, 0, none⟩ = some (.int .i64 q)) (first | exact KB.out _ BB7.out | exact KB.out _ (Below.refl _ _).drew | go_keep)
        ((go_at_call 7; refine (HSp.out _ (BB.out.trans ((Below.refl _ _).drew.mono BB.out.size))).mono ?_; rintro e w7 hres; obtain ⟨y1, y2, y3, y4, y5, y6, rfl, hg7, hb7⟩ := hres.gf; have BB7 := hide ((Below.refl W2.heap.size W2).drew.trans hb7); have hfd : ∀ u : World, (Instr.field 33 (.agg #[.int .i64 q, .slice y1 0 y2, .slice y3 0 y4, .slice y5 0 y6]) 0).run Tryz.prog u = .ok (.int .i64 q) u := (fun _ => by kernel_rfl); clear hres hg7 hb7))
      go_wp2_with fail
      go_ret
      exact ⟨by simp, below_next B1.out (BB.out.trans (BB7.out.mono BB.out.size))⟩
    · have HI := hide (him wa wk fa fc ca cc la lc _ e0 e1 (HG.out.below B1.out) F1.out L1.out)
      have HSp := hide (fun (u : World) (hb : Below (w1.alloc (.cells #[.slice wa W.length wk, .slice fa F.length fc, .slice ca n cc] 28)).heap.size (w1.alloc (.cells #[.slice wa W.length wk, .slice fa F.length fc, .slice ca n cc] 28)) u) => hsp wa wk fa fc ca cc la lc u (F1.out.below hb) hfc (L1.out.below hb))
      have HAg := hide hag
      have HCi := hide hci
      have NN := hide hN
      have HKn := hide hkn
      have HC := hide hcnt
      unfold fetV at HI HSp HAg
      clear hsp him hag hci hN hkn hcnt
      obtain ⟨⟨t0, t1, t2⟩, -, -, -⟩ := X1.out
      go_wp2_with fail
      clear t0 t1 t2
      generalize w1.alloc (.cells #[.slice wa W.length wk, .slice fa F.length fc, .slice ca n cc] 28) = W1 at *
      obtain ⟨fb, hfb⟩ : ∃ fb, fb = w1.heap.size := ⟨_, rfl⟩
      rw [← hfb] at X1 ⊢
      clear hfb A1
      refine HI.out.mono ?_
      rintro e w2 hres
      obtain ⟨x1, x2, x3, x4, x5, x6, rfl, hg2, hb2⟩ := hres.gf
      have A2 := hide (below_alloc w2 (.cells #[.int .i64 0, .slice x1 V.length x2, .slice x3 F.length x4, .slice x5 n x6] 33))
      have Q2 := hide (Bx4.new w2 (.int .i64 0) (.slice x1 V.length x2) (.slice x3 F.length x4) (.slice x5 n x6) 33)
      have G2 := hide (hg2.rd.below A2.out)
      have BB2 := hide (below_next hb2 A2.out)
      have L2 := hide (L1.out.below BB2.out)
      have X2 := hide (X1.out.below BB2.out)
      have B2 := hide (below_next B1.out BB2.out)
      clear hres hg2 hb2 HI X1
      have HA2 := hide (HAg.out x1 x2 x3 x4 x5 x6 la lc _ e0 e1 (HG.out.below B2.out) G2.out L2.out)
      obtain ⟨⟨m0, m1, m2, m3⟩, -, -, -, -⟩ := Q2.out
      go_wp2_with fail
      clear m0 m1 m2 m3
      generalize w2.alloc (.cells #[.int .i64 0, .slice x1 V.length x2, .slice x3 F.length x4, .slice x5 n x6] 33) = W2 at *
      obtain ⟨rb, hrb⟩ : ∃ rb, rb = w2.heap.size := ⟨_, rfl⟩
      rw [← hrb] at Q2 ⊢
      clear hrb A2
      refine HA2.out.mono ?_
      rintro e w3 hres
      obtain ⟨y1, y2, y3, y4, y5, y6, rfl, hg3, hb3⟩ := hres.gf
      have A3 := hide (below_alloc w3 (.cells #[.int .i64 0, .slice y1 V.length y2, .slice y3 F.length y4, .slice y5 n y6] 33))
      have Y3 := hide (Bx4.new w3 (.int .i64 0) (.slice y1 V.length y2) (.slice y3 F.length y4) (.slice y5 n y6) 33)
      have BA3 := hide (below_next hb3 A3.out)
      have BB3 := hide (below_next BB2.out BA3.out)
      have L3 := hide (L2.out.below BA3.out)
      have X3 := hide (X2.out.below BA3.out)
      have Q3 := hide (Q2.out.below BA3.out)
      have G3 := hide (G2.out.below BA3.out)
      have B3 := hide (below_next B2.out BA3.out)
      clear hres hg3 hb3 HA2 X2 Q2 G2 L2 B2 BB2 BA3 HAg
      have HC3 := hide (HCi.out la lc _ L3.out)
      go_wp2_with fail
      generalize w3.alloc (.cells #[.int .i64 0, .slice y1 V.length y2, .slice y3 F.length y4, .slice y5 n y6] 33) = W3 at *
      obtain ⟨gb, hgb⟩ : ∃ gb, gb = w3.heap.size := ⟨_, rfl⟩
      rw [← hgb] at Y3 ⊢
      clear hgb A3
      refine HC3.out.mono ?_
      rintro e w4 ⟨da, dc, rfl, hO4, hb4⟩
      have A4 := hide (below_alloc w4 (.cells #[.int .i64 0, .slice da ds.length dc] 36))
      have I4 := hide (Two.new w4 (.int .i64 0) (.slice da ds.length dc) 36)
      have BA4 := hide (below_next hb4 A4.out)
      have BB4 := hide (below_next BB3.out BA4.out)
      have L4 := hide (L3.out.below BA4.out)
      have X4 := hide (X3.out.below BA4.out)
      have Q4 := hide (Q3.out.below BA4.out)
      have Y4 := hide (Y3.out.below BA4.out)
      have G4 := hide (G3.out.below BA4.out)
      have B4 := hide (below_next B3.out BA4.out)
      have D4 := hide ((ownsRow_own (ownsRow_below hO4 A4.out) rfl).reads)
      clear hO4 hb4 HC3 X3 Q3 G3 L3 B3 BB3 BA4 Y3 HCi
      go_wp2_with fail
      generalize w4.alloc (.cells #[.int .i64 0, .slice da ds.length dc] 36) = W4 at *
      obtain ⟨ib, hib⟩ : ∃ ib, ib = w4.heap.size := ⟨_, rfl⟩
      rw [← hib] at I4 ⊢
      clear hib A4
      have hn1 : n ≤ 1048576 := by have := NN.out.right.many; omega
      have hVl : V.length ≤ 1048576 := by have := NN.out.fit.wmany; omega
      have hFl : F.length ≤ 1048576 := by have := NN.out.fit.fmany; omega
      obtain ⟨K, hK⟩ : ∃ K, K = keysC D n := ⟨_, rfl⟩
      have HK := hide hK
      rw [← hK] at HC HKn
      clear hK
      go_loopw [8, 9, 10, 11] (fun v8 v9 v10 v11 wr => ∃ k : Nat, k ≤ ds.length ∧ v9 = .int .i64 k ∧ v8 = .int .i64 (cnt K ds k) ∧ Hid (Below W4.heap.size W4 wr)) (fun v8 v9 v10 v11 wr => ds.length - (intOf v9).toNat)
      case atStart => exact ⟨0, Nat.zero_le _, rfl, by simp [cnt], hide (Below.refl _ _)⟩
      case round =>
        obtain ⟨k, hk, rfl, rfl, BW⟩ := hrel
        by_cases hlt : k < ds.length
        · obtain ⟨db, d0, rfl, hdb, hdc⟩ := D4.out (by intro e; simp [e] at hlt)
          obtain ⟨d, hd⟩ : ∃ d, d = ds.getD k 0 := ⟨_, rfl⟩
          have c1 := hdc k hlt
          rw [← hd] at c1
          have hdm : d ∈ ds := by rw [hd]; exact getD_mem 0 hlt
          obtain ⟨hok, hkno⟩ := HKn.out d hdm
          have hlt' : (k : Int) < (ds.length : Int) := by omega
          have CS := hide (cnt_step (K := K) hlt)
          rw [← hd] at CS
          have KB : Hid (∀ u : World, Below W4.heap.size W4 u → (u.cell? ⟨fb, 0, none⟩ = some (.slice wa W.length wk) ∧ u.cell? ⟨fb, 1, none⟩ = some (.slice fa F.length fc) ∧ u.cell? ⟨fb, 2, none⟩ = some (.slice ca n cc)) ∧ (u.cell? ⟨rb, 0, none⟩ = some (.int .i64 0) ∧ u.cell? ⟨rb, 1, none⟩ = some (.slice x1 V.length x2) ∧ u.cell? ⟨rb, 2, none⟩ = some (.slice x3 F.length x4) ∧ u.cell? ⟨rb, 3, none⟩ = some (.slice x5 n x6)) ∧ (u.cell? ⟨ib, 0, none⟩ = some (.int .i64 0) ∧ u.cell? ⟨ib, 1, none⟩ = some (.slice (some ⟨db, d0, none⟩) ds.length dc)) ∧ u.cell? ⟨db, d0 + k, none⟩ = some (.int .i64 d)) := hide (fun u hb => ⟨(X4.out.below hb).1, (Q4.out.below hb).1, I4.out.below hb, (hb.cell (p := ⟨db, d0 + k, none⟩) hdb).trans c1⟩)
          have F4 := hide (F1.out.below BB4.out)
          have BWD := hide (BW.out.trans ((Below.refl wr.heap.size wr).drew.mono BW.out.size))
          clear c1 hdc hd hdm
          by_cases hdK : d ∈ K
          · obtain ⟨j, hj, hDj⟩ := mem_keysC.1 (by rw [← HK.out]; exact hdK)
            have hdF : d ∉ F := fun h => NN.out.fit.ffree d h (by rw [← HK.out]; exact hdK)
            have HCF := hide (fun (u : World) (hb : Below W4.heap.size W4 u) => implChunkFor_yes ca cc n j D P d u (F4.out.below hb).chunks hn1 NN.out.small (fault_right NN.out.right) (okD_wf hok) hj hDj)
            have HAF := hide (fun (u : World) (hb : Below W4.heap.size W4 u) => implAskFetch_known x1 x2 V x3 x4 F x5 x6 n D P d u (G4.out.below hb) hn1 NN.out.small hVl hFl NN.out.zero NN.out.right hok hdF (.inl (by rw [← HK.out]; exact hdK)))
            unfold fetV at HAF
            have HST : Hid (cnt K ds (k + 1) = cnt K ds k) := hide (by rw [CS.out, if_pos hdK]; rfl)
            generalize P j = pj at *
            clear hDj hj
            generalize cnt K ds k = ck at *
            clear CS hkno
            obtain ⟨⟨t0, t1, t2⟩, ⟨m0, m1, m2, m3⟩, ⟨i0, i1⟩, s0⟩ := KB.out wr BW.out
            go_upto_region 13 with fail
            go_region_held3 (fun u => (u.cell? ⟨fb, 0, none⟩ = some (.slice wa W.length wk) ∧ u.cell? ⟨fb, 1, none⟩ = some (.slice fa F.length fc) ∧ u.cell? ⟨fb, 2, none⟩ = some (.slice ca n cc)) ∧ (u.cell? ⟨rb, 0, none⟩ = some (.int .i64 0) ∧ u.cell? ⟨rb, 1, none⟩ = some (.slice x1 V.length x2) ∧ u.cell? ⟨rb, 2, none⟩ = some (.slice x3 F.length x4) ∧ u.cell? ⟨rb, 3, none⟩ = some (.slice x5 n x6)) ∧ (u.cell? ⟨ib, 0, none⟩ = some (.int .i64 0) ∧ u.cell? ⟨ib, 1, none⟩ = some (.slice (some ⟨db, d0, none⟩) ds.length dc)) ∧ u.cell? ⟨db, d0 + k, none⟩ = some (.int .i64 d)) (first | exact KB.out _ BB5.out | exact KB.out _ BWD.out | go_keep)
              ((go_at_call 9; refine (HCF.out _ BWD.out).mono ?_; rintro e w5 ⟨xa, xc, rfl, hgb, hb5⟩; have BB5 := hide (BWD.out.trans (hb5.mono BWD.out.size)); have hfd : ∀ u : World, (Instr.field 39 (.agg #[.int .i64 0, .slice xa pj.length xc]) 0).run Tryz.prog u = .ok (.int .i64 0) u := (fun _ => by kernel_rfl); clear hgb hb5))
            clear t0 t1 t2 m0 m1 m2 m3 i0 i1 s0
            obtain ⟨⟨t0, t1, t2⟩, ⟨m0, m1, m2, m3⟩, ⟨i0, i1⟩, s0⟩ := KB.out w5 BB5.out
            have B5D := hide (BB5.out.trans ((Below.refl w5.heap.size w5).drew.mono BB5.out.size))
            have B5A := hide (BB5.out.trans ((below_next (below_alloc w5 (.cells #[.int .i64 0, .slice none 0 0, .slice none 0 0, .slice none 0 0] 33)) (Below.refl _ _).drew).mono BB5.out.size))
            have Z5 := hide ((Bx4.new w5 (.int .i64 0) (.slice none 0 0) (.slice none 0 0) (.slice none 0 0) 33).below (Below.refl _ _).drew)
            have hz5 := BB5.out.size
            have hlr := Q4.out.lt
            have hlf := X4.out.lt
            have hli : ib < W4.heap.size := World.block_lt_of_cell? _ ⟨ib, 0, none⟩ I4.out.1
            have hr1 : ¬ rb = w5.heap.size := by omega
            have hr2 : ¬ w5.heap.size = rb := by omega
            have hf1 : ¬ fb = w5.heap.size := by omega
            have hf2 : ¬ w5.heap.size = fb := by omega
            have hi1 : ¬ ib = w5.heap.size := by omega
            have hi2 : ¬ w5.heap.size = ib := by omega
            go_upto_region 14 with fail
            go_cut [11] from 38 to 88 (fun v11 wc => ∃ (ab : Nat) (z1 : Option Addr) (z2 : Nat) (z3 : Option Addr) (z4 : Nat) (z5 : Option Addr) (z6 : Nat), v11 = .pointer (some ⟨ab, 0, none⟩) ∧ Hid (Bx4 wc ab (.int .i64 0) (.slice z1 V.length z2) (.slice z3 F.length z4) (.slice z5 n z6)) ∧ Hid (Below W4.heap.size W4 wc))
            case first =>
              go_region_held3 (fun u => (u.cell? ⟨fb, 0, none⟩ = some (.slice wa W.length wk) ∧ u.cell? ⟨fb, 1, none⟩ = some (.slice fa F.length fc) ∧ u.cell? ⟨fb, 2, none⟩ = some (.slice ca n cc)) ∧ (u.cell? ⟨rb, 0, none⟩ = some (.int .i64 0) ∧ u.cell? ⟨rb, 1, none⟩ = some (.slice x1 V.length x2) ∧ u.cell? ⟨rb, 2, none⟩ = some (.slice x3 F.length x4) ∧ u.cell? ⟨rb, 3, none⟩ = some (.slice x5 n x6)) ∧ (u.cell? ⟨ib, 0, none⟩ = some (.int .i64 0) ∧ u.cell? ⟨ib, 1, none⟩ = some (.slice (some ⟨db, d0, none⟩) ds.length dc)) ∧ u.cell? ⟨db, d0 + k, none⟩ = some (.int .i64 d)) (first | exact KB.out _ BN6.out | exact KB.out _ (below_next BN6.out (below_alloc _ _)) | exact KB.out _ BS6.out | exact KB.out _ B5A.out | exact KB.out _ B5D.out | go_keep)
                ((first | (go_at_call 10; refine (HAF.out _ (by first | exact B5D.out | exact B5A.out)).mono ?_; rintro e w6 hres; obtain ⟨z1, z2, z3, z4, z5, z6, rfl, hg6, hb6⟩ := hres.gf; have BN6 : Hid (Below W4.heap.size W4 w6) := hide (by first | exact below_next B5D.out hb6 | exact below_next B5A.out hb6); (first | (have Z6 : Bx4 w6 w5.heap.size (.int .i64 0) (.slice none 0 0) (.slice none 0 0) (.slice none 0 0) := Z5.out.below hb6; have BS6 := hide (BN6.out.trans ((Kept.fourF w6 w5.heap.size (.int .i64 0) (.slice z1 V.length z2) (.slice z3 F.length z4) (.slice z5 n z6)).below (B := W4.heap.size) BN6.out.size (fun q hq e => by omega))); have ZS := hide (Z6.setAll (.int .i64 0) (.slice z1 V.length z2) (.slice z3 F.length z4) (.slice z5 n z6)); obtain ⟨⟨n0, n1, n2, n3⟩, p0, p1, p2, p3⟩ := Z6) | skip); clear hres hg6 hb6)))
              · go_wp2_with fail
                go_meet
                case rel => exact ⟨w6.heap.size, z1, z2, z3, z4, z5, z6, rfl, hide (Bx4.new w6 _ _ _ _ _), hide (below_next BN6.out (below_alloc _ _))⟩
              · go_wp2_with fail
                go_meet
                case rel => exact ⟨w5.heap.size, z1, z2, z3, z4, z5, z6, rfl, ZS, BS6⟩
            case rest =>
              obtain ⟨ab, z1, z2, z3, z4, z5, z6, rfl, Z9, B9⟩ := hcut
              clear t0 t1 t2 m0 m1 m2 m3 i0 i1 s0 hr1 hr2 hf1 hf2 hi1 hi2
              obtain ⟨⟨t0, t1, t2⟩, ⟨m0, m1, m2, m3⟩, ⟨i0, i1⟩, s0⟩ := KB.out wc B9.out
              obtain ⟨⟨n0, n1, n2, n3⟩, -, -, -, -⟩ := Z9.out
              go_wp2_with fail
              go_roundw
              case rel => exact ⟨k + 1, hlt, by go_num, by rw [HST.out], B9⟩
              case measure => simp [intOf]; omega
          · by_cases hdF : d ∈ F
            · have HCF := hide (fun (u : World) (hb : Below W4.heap.size W4 u) => implChunkFor_no ca cc n D P d u (F4.out.below hb).chunks hn1 NN.out.small (fault_right NN.out.right) (okD_wf hok) (fun j hj e => hdK (by rw [HK.out]; exact mem_keysC.2 ⟨j, hj, e⟩)))
              have HST : Hid (cnt K ds (k + 1) = cnt K ds k + 1) := hide (by rw [CS.out, if_neg hdK])
              have hck := @cnt_le K ds k
              have hwr : IntKind.i64.wrap (((cnt K ds k : Nat) : Int) + 1) = ((cnt K ds k : Nat) : Int) + 1 := by simp [IntKind.wrap, IntKind.signed, IntKind.bits]; omega
              have HAF := hide (fun (u : World) (hb : Below W4.heap.size W4 u) => implAskFetch_away x1 x2 V x3 x4 F x5 x6 n D P d u e0 e1 (HG.out.below (below_next B4.out hb)) (G4.out.below hb) hn1 NN.out.small hVl hFl NN.out.zero NN.out.right hok hdF)
              unfold fetV at HAF
              generalize cnt K ds k = ck at *
              clear CS hkno
              obtain ⟨⟨t0, t1, t2⟩, ⟨m0, m1, m2, m3⟩, ⟨i0, i1⟩, s0⟩ := KB.out wr BW.out
              go_upto_region 13 with fail
              go_region_held3 (fun u => (u.cell? ⟨fb, 0, none⟩ = some (.slice wa W.length wk) ∧ u.cell? ⟨fb, 1, none⟩ = some (.slice fa F.length fc) ∧ u.cell? ⟨fb, 2, none⟩ = some (.slice ca n cc)) ∧ (u.cell? ⟨rb, 0, none⟩ = some (.int .i64 0) ∧ u.cell? ⟨rb, 1, none⟩ = some (.slice x1 V.length x2) ∧ u.cell? ⟨rb, 2, none⟩ = some (.slice x3 F.length x4) ∧ u.cell? ⟨rb, 3, none⟩ = some (.slice x5 n x6)) ∧ (u.cell? ⟨ib, 0, none⟩ = some (.int .i64 0) ∧ u.cell? ⟨ib, 1, none⟩ = some (.slice (some ⟨db, d0, none⟩) ds.length dc)) ∧ u.cell? ⟨db, d0 + k, none⟩ = some (.int .i64 d)) (first | exact KB.out _ BB5.out | exact KB.out _ BWD.out | go_keep)
                ((go_at_call 9; refine (HCF.out _ BWD.out).mono ?_; rintro e w5 ⟨xa, xc, rfl, hgb, hb5⟩; have BB5 := hide (BWD.out.trans (hb5.mono BWD.out.size)); have hfd : ∀ u : World, (Instr.field 39 (.agg #[.int .i64 4, .slice xa 0 xc]) 0).run Tryz.prog u = .ok (.int .i64 4) u := (fun _ => by kernel_rfl); clear hgb hb5))
              clear t0 t1 t2 m0 m1 m2 m3 i0 i1 s0
              obtain ⟨⟨t0, t1, t2⟩, ⟨m0, m1, m2, m3⟩, ⟨i0, i1⟩, s0⟩ := KB.out w5 BB5.out
              have B5D := hide (BB5.out.trans ((Below.refl w5.heap.size w5).drew.mono BB5.out.size))
              have B5A := hide (BB5.out.trans ((below_next (below_alloc w5 (.cells #[.int .i64 0, .slice none 0 0, .slice none 0 0, .slice none 0 0] 33)) (Below.refl _ _).drew).mono BB5.out.size))
              have Z5 := hide ((Bx4.new w5 (.int .i64 0) (.slice none 0 0) (.slice none 0 0) (.slice none 0 0) 33).below (Below.refl _ _).drew)
              have hz5 := BB5.out.size
              have hlr := Q4.out.lt
              have hlf := X4.out.lt
              have hli : ib < W4.heap.size := World.block_lt_of_cell? _ ⟨ib, 0, none⟩ I4.out.1
              have hr1 : ¬ rb = w5.heap.size := by omega
              have hr2 : ¬ w5.heap.size = rb := by omega
              have hf1 : ¬ fb = w5.heap.size := by omega
              have hf2 : ¬ w5.heap.size = fb := by omega
              have hi1 : ¬ ib = w5.heap.size := by omega
              have hi2 : ¬ w5.heap.size = ib := by omega
              go_upto_region 14 with fail
              go_cut [11] from 38 to 88 (fun v11 wc => ∃ (ab : Nat) (z1 : Option Addr) (z2 : Nat) (z3 : Option Addr) (z4 : Nat) (z5 : Option Addr) (z6 : Nat), v11 = .pointer (some ⟨ab, 0, none⟩) ∧ Hid (Bx4 wc ab (.int .i64 8) (.slice z1 0 z2) (.slice z3 0 z4) (.slice z5 0 z6)) ∧ Hid (Below W4.heap.size W4 wc))
              case first =>
                go_region_held3 (fun u => (u.cell? ⟨fb, 0, none⟩ = some (.slice wa W.length wk) ∧ u.cell? ⟨fb, 1, none⟩ = some (.slice fa F.length fc) ∧ u.cell? ⟨fb, 2, none⟩ = some (.slice ca n cc)) ∧ (u.cell? ⟨rb, 0, none⟩ = some (.int .i64 0) ∧ u.cell? ⟨rb, 1, none⟩ = some (.slice x1 V.length x2) ∧ u.cell? ⟨rb, 2, none⟩ = some (.slice x3 F.length x4) ∧ u.cell? ⟨rb, 3, none⟩ = some (.slice x5 n x6)) ∧ (u.cell? ⟨ib, 0, none⟩ = some (.int .i64 0) ∧ u.cell? ⟨ib, 1, none⟩ = some (.slice (some ⟨db, d0, none⟩) ds.length dc)) ∧ u.cell? ⟨db, d0 + k, none⟩ = some (.int .i64 d)) (first | exact KB.out _ BN6.out | exact KB.out _ (below_next BN6.out (below_alloc _ _)) | exact KB.out _ BS6.out | exact KB.out _ B5A.out | exact KB.out _ B5D.out | go_keep)
                  ((first | (go_at_call 10; refine (HAF.out _ (by first | exact B5D.out | exact B5A.out)).mono ?_; rintro e w6 hres; obtain ⟨z1, z2, z3, z4, z5, z6, rfl, hg6, hb6⟩ := hres.gf; have BN6 : Hid (Below W4.heap.size W4 w6) := hide (by first | exact below_next B5D.out hb6 | exact below_next B5A.out hb6); (first | (have Z6 : Bx4 w6 w5.heap.size (.int .i64 0) (.slice none 0 0) (.slice none 0 0) (.slice none 0 0) := Z5.out.below hb6; have BS6 := hide (BN6.out.trans ((Kept.fourF w6 w5.heap.size (.int .i64 8) (.slice z1 0 z2) (.slice z3 0 z4) (.slice z5 0 z6)).below (B := W4.heap.size) BN6.out.size (fun q hq e => by omega))); have ZS := hide (Z6.setAll (.int .i64 8) (.slice z1 0 z2) (.slice z3 0 z4) (.slice z5 0 z6)); obtain ⟨⟨n0, n1, n2, n3⟩, p0, p1, p2, p3⟩ := Z6) | skip); clear hres hg6 hb6)))
                · go_wp2_with fail
                  go_meet
                  case rel => exact ⟨w6.heap.size, z1, z2, z3, z4, z5, z6, rfl, hide (Bx4.new w6 _ _ _ _ _), hide (below_next BN6.out (below_alloc _ _))⟩
                · go_wp2_with fail
                  go_meet
                  case rel => exact ⟨w5.heap.size, z1, z2, z3, z4, z5, z6, rfl, ZS, BS6⟩
              case rest =>
                obtain ⟨ab, z1, z2, z3, z4, z5, z6, rfl, Z9, B9⟩ := hcut
                clear t0 t1 t2 m0 m1 m2 m3 i0 i1 s0 hr1 hr2 hf1 hf2 hi1 hi2
                obtain ⟨⟨t0, t1, t2⟩, ⟨m0, m1, m2, m3⟩, ⟨i0, i1⟩, s0⟩ := KB.out wc B9.out
                obtain ⟨⟨n0, n1, n2, n3⟩, -, -, -, -⟩ := Z9.out
                go_wp2_with fail
                go_roundw
                case rel => exact ⟨k + 1, hlt, by go_num, by rw [HST.out]; go_num, B9⟩
                case measure => simp [intOf]; omega
            · have HCF := hide (fun (u : World) (hb : Below W4.heap.size W4 u) => implChunkFor_no ca cc n D P d u (F4.out.below hb).chunks hn1 NN.out.small (fault_right NN.out.right) (okD_wf hok) (fun j hj e => hdK (by rw [HK.out]; exact mem_keysC.2 ⟨j, hj, e⟩)))
              have HST : Hid (cnt K ds (k + 1) = cnt K ds k + 1) := hide (by rw [CS.out, if_neg hdK])
              have hck := @cnt_le K ds k
              have hwr : IntKind.i64.wrap (((cnt K ds k : Nat) : Int) + 1) = ((cnt K ds k : Nat) : Int) + 1 := by simp [IntKind.wrap, IntKind.signed, IntKind.bits]; omega
              have HAF := hide (fun (u : World) (hb : Below W4.heap.size W4 u) => implAskFetch_known x1 x2 V x3 x4 F x5 x6 n D P d u (G4.out.below hb) hn1 NN.out.small hVl hFl NN.out.zero NN.out.right hok hdF (.inr (by rcases hkno with h | h | h; exact absurd h hdF; exact absurd h hdK; exact h)))
              unfold fetV at HAF
              generalize cnt K ds k = ck at *
              clear CS hkno
              obtain ⟨⟨t0, t1, t2⟩, ⟨m0, m1, m2, m3⟩, ⟨i0, i1⟩, s0⟩ := KB.out wr BW.out
              go_upto_region 13 with fail
              go_region_held3 (fun u => (u.cell? ⟨fb, 0, none⟩ = some (.slice wa W.length wk) ∧ u.cell? ⟨fb, 1, none⟩ = some (.slice fa F.length fc) ∧ u.cell? ⟨fb, 2, none⟩ = some (.slice ca n cc)) ∧ (u.cell? ⟨rb, 0, none⟩ = some (.int .i64 0) ∧ u.cell? ⟨rb, 1, none⟩ = some (.slice x1 V.length x2) ∧ u.cell? ⟨rb, 2, none⟩ = some (.slice x3 F.length x4) ∧ u.cell? ⟨rb, 3, none⟩ = some (.slice x5 n x6)) ∧ (u.cell? ⟨ib, 0, none⟩ = some (.int .i64 0) ∧ u.cell? ⟨ib, 1, none⟩ = some (.slice (some ⟨db, d0, none⟩) ds.length dc)) ∧ u.cell? ⟨db, d0 + k, none⟩ = some (.int .i64 d)) (first | exact KB.out _ BB5.out | exact KB.out _ BWD.out | go_keep)
                ((go_at_call 9; refine (HCF.out _ BWD.out).mono ?_; rintro e w5 ⟨xa, xc, rfl, hgb, hb5⟩; have BB5 := hide (BWD.out.trans (hb5.mono BWD.out.size)); have hfd : ∀ u : World, (Instr.field 39 (.agg #[.int .i64 4, .slice xa 0 xc]) 0).run Tryz.prog u = .ok (.int .i64 4) u := (fun _ => by kernel_rfl); clear hgb hb5))
              clear t0 t1 t2 m0 m1 m2 m3 i0 i1 s0
              obtain ⟨⟨t0, t1, t2⟩, ⟨m0, m1, m2, m3⟩, ⟨i0, i1⟩, s0⟩ := KB.out w5 BB5.out
              have B5D := hide (BB5.out.trans ((Below.refl w5.heap.size w5).drew.mono BB5.out.size))
              have B5A := hide (BB5.out.trans ((below_next (below_alloc w5 (.cells #[.int .i64 0, .slice none 0 0, .slice none 0 0, .slice none 0 0] 33)) (Below.refl _ _).drew).mono BB5.out.size))
              have Z5 := hide ((Bx4.new w5 (.int .i64 0) (.slice none 0 0) (.slice none 0 0) (.slice none 0 0) 33).below (Below.refl _ _).drew)
              have hz5 := BB5.out.size
              have hlr := Q4.out.lt
              have hlf := X4.out.lt
              have hli : ib < W4.heap.size := World.block_lt_of_cell? _ ⟨ib, 0, none⟩ I4.out.1
              have hr1 : ¬ rb = w5.heap.size := by omega
              have hr2 : ¬ w5.heap.size = rb := by omega
              have hf1 : ¬ fb = w5.heap.size := by omega
              have hf2 : ¬ w5.heap.size = fb := by omega
              have hi1 : ¬ ib = w5.heap.size := by omega
              have hi2 : ¬ w5.heap.size = ib := by omega
              go_upto_region 14 with fail
              go_cut [11] from 38 to 88 (fun v11 wc => ∃ (ab : Nat) (z1 : Option Addr) (z2 : Nat) (z3 : Option Addr) (z4 : Nat) (z5 : Option Addr) (z6 : Nat), v11 = .pointer (some ⟨ab, 0, none⟩) ∧ Hid (Bx4 wc ab (.int .i64 0) (.slice z1 V.length z2) (.slice z3 F.length z4) (.slice z5 n z6)) ∧ Hid (Below W4.heap.size W4 wc))
              case first =>
                go_region_held3 (fun u => (u.cell? ⟨fb, 0, none⟩ = some (.slice wa W.length wk) ∧ u.cell? ⟨fb, 1, none⟩ = some (.slice fa F.length fc) ∧ u.cell? ⟨fb, 2, none⟩ = some (.slice ca n cc)) ∧ (u.cell? ⟨rb, 0, none⟩ = some (.int .i64 0) ∧ u.cell? ⟨rb, 1, none⟩ = some (.slice x1 V.length x2) ∧ u.cell? ⟨rb, 2, none⟩ = some (.slice x3 F.length x4) ∧ u.cell? ⟨rb, 3, none⟩ = some (.slice x5 n x6)) ∧ (u.cell? ⟨ib, 0, none⟩ = some (.int .i64 0) ∧ u.cell? ⟨ib, 1, none⟩ = some (.slice (some ⟨db, d0, none⟩) ds.length dc)) ∧ u.cell? ⟨db, d0 + k, none⟩ = some (.int .i64 d)) (first | exact KB.out _ BN6.out | exact KB.out _ (below_next BN6.out (below_alloc _ _)) | exact KB.out _ BS6.out | exact KB.out _ B5A.out | exact KB.out _ B5D.out | go_keep)
                  ((first | (go_at_call 10; refine (HAF.out _ (by first | exact B5D.out | exact B5A.out)).mono ?_; rintro e w6 hres; obtain ⟨z1, z2, z3, z4, z5, z6, rfl, hg6, hb6⟩ := hres.gf; have BN6 : Hid (Below W4.heap.size W4 w6) := hide (by first | exact below_next B5D.out hb6 | exact below_next B5A.out hb6); (first | (have Z6 : Bx4 w6 w5.heap.size (.int .i64 0) (.slice none 0 0) (.slice none 0 0) (.slice none 0 0) := Z5.out.below hb6; have BS6 := hide (BN6.out.trans ((Kept.fourF w6 w5.heap.size (.int .i64 0) (.slice z1 V.length z2) (.slice z3 F.length z4) (.slice z5 n z6)).below (B := W4.heap.size) BN6.out.size (fun q hq e => by omega))); have ZS := hide (Z6.setAll (.int .i64 0) (.slice z1 V.length z2) (.slice z3 F.length z4) (.slice z5 n z6)); obtain ⟨⟨n0, n1, n2, n3⟩, p0, p1, p2, p3⟩ := Z6) | skip); clear hres hg6 hb6)))
                · go_wp2_with fail
                  go_meet
                  case rel => exact ⟨w6.heap.size, z1, z2, z3, z4, z5, z6, rfl, hide (Bx4.new w6 _ _ _ _ _), hide (below_next BN6.out (below_alloc _ _))⟩
                · go_wp2_with fail
                  go_meet
                  case rel => exact ⟨w5.heap.size, z1, z2, z3, z4, z5, z6, rfl, ZS, BS6⟩
              case rest =>
                obtain ⟨ab, z1, z2, z3, z4, z5, z6, rfl, Z9, B9⟩ := hcut
                clear t0 t1 t2 m0 m1 m2 m3 i0 i1 s0 hr1 hr2 hf1 hf2 hi1 hi2
                obtain ⟨⟨t0, t1, t2⟩, ⟨m0, m1, m2, m3⟩, ⟨i0, i1⟩, s0⟩ := KB.out wc B9.out
                obtain ⟨⟨n0, n1, n2, n3⟩, -, -, -, -⟩ := Z9.out
                go_wp2_with fail
                go_roundw
                case rel => exact ⟨k + 1, hlt, by go_num, by rw [HST.out]; go_num, B9⟩
                case measure => simp [intOf]; omega
        · have hke : k = ds.length := by omega
          have hck := @cnt_le K ds k
          have hlt' : ¬ (k : Int) < (ds.length : Int) := by omega
          have hle : V.length ≤ W.length + cnt K ds k := by rw [hke, cnt_all]; exact HC.out
          generalize cnt K ds k = ck at *
          clear hke hlt
          have hWl2 := HSm.out.sw
          have hwr : IntKind.i64.wrap ((W.length : Int) + (ck : Int)) = (W.length : Int) + (ck : Int) := by simp [IntKind.wrap, IntKind.signed, IntKind.bits]; omega
          have hle2 : (V.length : Int) ≤ (W.length : Int) + (ck : Int) := by omega
          have hbb : ((V.length : Int) == (V.length : Int)) = true := by simp
          have HFF := hide (fun (u : World) (hb : Below W4.heap.size W4 u) => implFetchFault_any x1 x2 V x3 x4 F x5 x6 n D P u (G4.out.below hb) hn1 NN.out.small hVl hFl)
          have HZF := hide NN.out.zero
          rw [HZF.out] at HFF
          unfold fetV at HFF
          have HSq := hide (fun (u : World) (hb : Below W4.heap.size W4 u) => HSp.out u (BB4.out.trans (hb.mono BB4.out.size)))
          have KB : Hid (∀ u : World, Below W4.heap.size W4 u → (u.cell? ⟨fb, 0, none⟩ = some (.slice wa W.length wk) ∧ u.cell? ⟨fb, 1, none⟩ = some (.slice fa F.length fc) ∧ u.cell? ⟨fb, 2, none⟩ = some (.slice ca n cc)) ∧ (u.cell? ⟨rb, 0, none⟩ = some (.int .i64 0) ∧ u.cell? ⟨rb, 1, none⟩ = some (.slice x1 V.length x2) ∧ u.cell? ⟨rb, 2, none⟩ = some (.slice x3 F.length x4) ∧ u.cell? ⟨rb, 3, none⟩ = some (.slice x5 n x6)) ∧ (u.cell? ⟨gb, 0, none⟩ = some (.int .i64 0) ∧ u.cell? ⟨gb, 1, none⟩ = some (.slice y1 V.length y2))) := hide (fun u hb => ⟨(X4.out.below hb).1, (Q4.out.below hb).1, ⟨(Y4.out.below hb).1.1, (Y4.out.below hb).1.2.1⟩⟩)
          have BWD := hide (BW.out.trans ((Below.refl wr.heap.size wr).drew.mono BW.out.size))
          have e0' := KB.out wr BW.out
          obtain ⟨⟨t0, t1, t2⟩, ⟨m0, m1, m2, m3⟩, ⟨g0, g1⟩⟩ := KB.out wr BW.out
          have i1 := (I4.out.below BW.out).2
          clear e0'
          go_upto_region 19 with fail
          clear t0 t1 t2 m0 m1 m2 m3 g0 g1 i1
          refine wp_region_held_drew (S := fun u => (u.cell? ⟨fb, 0, none⟩ = some (.slice wa W.length wk) ∧ u.cell? ⟨fb, 1, none⟩ = some (.slice fa F.length fc) ∧ u.cell? ⟨fb, 2, none⟩ = some (.slice ca n cc)) ∧ (u.cell? ⟨rb, 0, none⟩ = some (.int .i64 0) ∧ u.cell? ⟨rb, 1, none⟩ = some (.slice x1 V.length x2) ∧ u.cell? ⟨rb, 2, none⟩ = some (.slice x3 F.length x4) ∧ u.cell? ⟨rb, 3, none⟩ = some (.slice x5 n x6)) ∧ (u.cell? ⟨gb, 0, none⟩ = some (.int .i64 0) ∧ u.cell? ⟨gb, 1, none⟩ = some (.slice y1 V.length y2))) (by kernel_rfl) (KB.out _ BWD.out) (fun hHeld => ?_)
          change wpAnyH _ _ _ _ _ _ (Array.replicate _ false) _ _
          refine tk 0 89 (.pointer (some ⟨rb, 1, none⟩)) hHeld rfl (by kernel_rfl) (by kernel_rfl) (by kernel_rfl) (fun _ _ _ h => h) (Or.inl ⟨by rfl, ?_⟩) ?_
          · rintro w ⟨⟨t0, t1, t2⟩, ⟨m0, m1, m2, m3⟩, g0, g1⟩
            go_simp <;> (first | done | (intro _; omega))
          try simp only [Act.put, List.setIfInBounds_toArray, List.set_cons_zero, List.set_cons_succ]
          refine tk 1 90 (.agg #[.slice x1 V.length x2, .slice x3 F.length x4, .slice x5 n x6]) hHeld rfl (by kernel_rfl) (by kernel_rfl) (by kernel_rfl) (fun _ _ _ h => h) (Or.inl ⟨by rfl, ?_⟩) ?_
          · rintro w ⟨⟨t0, t1, t2⟩, ⟨m0, m1, m2, m3⟩, g0, g1⟩
            go_simp <;> (first | done | (intro _; omega))
          try simp only [Act.put, List.setIfInBounds_toArray, List.set_cons_zero, List.set_cons_succ]
          refine wpAnyH_ready (rs := [2]) (by kernel_rfl) (by simp) ?_
          refine AllReadyH.cons rfl (fun K hK => ?_) AllReadyH.nil
          go_simp
          refine (HFF.out _ BWD.out).mono ?_
          rintro e w7 ⟨rfl, hb7⟩
          have BB7 := hide (BWD.out.trans (hb7.mono BWD.out.size))
          clear hb7
          go_wp2_with fail
          refine hK.out _ _ (KB.out _ BB7.out) (fun hHeld => ?_)
          clear hK K
          try simp only [Act.put, List.setIfInBounds_toArray, List.set_cons_zero, List.set_cons_succ]
          refine tk 3 92 (.bool true) hHeld rfl (by kernel_rfl) (by kernel_rfl) (by kernel_rfl) (fun _ _ _ h => h) (Or.inl ⟨by rfl, ?_⟩) ?_
          · rintro w ⟨⟨t0, t1, t2⟩, ⟨m0, m1, m2, m3⟩, g0, g1⟩
            go_simp <;> (first | done | (intro _; omega))
          try simp only [Act.put, List.setIfInBounds_toArray, List.set_cons_zero, List.set_cons_succ]
          refine tk 4 93 (.bool true) hHeld rfl (by kernel_rfl) (by kernel_rfl) (by kernel_rfl) (fun _ _ _ h => h) (Or.inl ⟨by rfl, ?_⟩) ?_
          · rintro w ⟨⟨t0, t1, t2⟩, ⟨m0, m1, m2, m3⟩, g0, g1⟩
            go_simp <;> (first | done | (intro _; omega))
          try simp only [Act.put, List.setIfInBounds_toArray, List.set_cons_zero, List.set_cons_succ]
          refine tk 5 94 (.pointer (some ⟨gb, 0, none⟩)) hHeld rfl (by kernel_rfl) (by kernel_rfl) (by kernel_rfl) (fun _ _ _ h => h) (Or.inl ⟨by rfl, ?_⟩) ?_
          · rintro w ⟨⟨t0, t1, t2⟩, ⟨m0, m1, m2, m3⟩, g0, g1⟩
            go_simp <;> (first | done | (intro _; omega))
          try simp only [Act.put, List.setIfInBounds_toArray, List.set_cons_zero, List.set_cons_succ]
          refine tk 6 95 (.int .i64 0) hHeld rfl (by kernel_rfl) (by kernel_rfl) (by kernel_rfl) (fun _ _ _ h => h) (Or.inl ⟨by rfl, ?_⟩) ?_
          · rintro w ⟨⟨t0, t1, t2⟩, ⟨m0, m1, m2, m3⟩, g0, g1⟩
            go_simp <;> (first | done | (intro _; omega))
          try simp only [Act.put, List.setIfInBounds_toArray, List.set_cons_zero, List.set_cons_succ]
          refine tk 7 96 (.bool true) hHeld rfl (by kernel_rfl) (by kernel_rfl) (by kernel_rfl) (fun _ _ _ h => h) (Or.inl ⟨by rfl, ?_⟩) ?_
          · rintro w ⟨⟨t0, t1, t2⟩, ⟨m0, m1, m2, m3⟩, g0, g1⟩
            go_simp <;> (first | done | (intro _; omega))
          try simp only [Act.put, List.setIfInBounds_toArray, List.set_cons_zero, List.set_cons_succ]
          refine tk 8 97 (.bool true) hHeld rfl (by kernel_rfl) (by kernel_rfl) (by kernel_rfl) (fun _ _ _ h => h) (Or.inl ⟨by rfl, ?_⟩) ?_
          · rintro w ⟨⟨t0, t1, t2⟩, ⟨m0, m1, m2, m3⟩, g0, g1⟩
            go_simp <;> (first | done | (intro _; omega))
          try simp only [Act.put, List.setIfInBounds_toArray, List.set_cons_zero, List.set_cons_succ]
          refine tk 9 98 (.bool true) hHeld rfl (by kernel_rfl) (by kernel_rfl) (by kernel_rfl) (fun _ _ _ h => h) (Or.inl ⟨by rfl, ?_⟩) ?_
          · rintro w ⟨⟨t0, t1, t2⟩, ⟨m0, m1, m2, m3⟩, g0, g1⟩
            go_simp <;> (first | done | (intro _; omega))
          try simp only [Act.put, List.setIfInBounds_toArray, List.set_cons_zero, List.set_cons_succ]
          refine tk 10 99 (.pointer (some ⟨gb, 1, none⟩)) hHeld rfl (by kernel_rfl) (by kernel_rfl) (by kernel_rfl) (fun _ _ _ h => h) (Or.inl ⟨by rfl, ?_⟩) ?_
          · rintro w ⟨⟨t0, t1, t2⟩, ⟨m0, m1, m2, m3⟩, g0, g1⟩
            go_simp <;> (first | done | (intro _; omega))
          try simp only [Act.put, List.setIfInBounds_toArray, List.set_cons_zero, List.set_cons_succ]
          refine tk 11 100 (.pointer (some ⟨gb, 1, none⟩)) hHeld rfl (by kernel_rfl) (by kernel_rfl) (by kernel_rfl) (fun _ _ _ h => h) (Or.inl ⟨by rfl, ?_⟩) ?_
          · rintro w ⟨⟨t0, t1, t2⟩, ⟨m0, m1, m2, m3⟩, g0, g1⟩
            go_simp <;> (first | done | (intro _; omega))
          try simp only [Act.put, List.setIfInBounds_toArray, List.set_cons_zero, List.set_cons_succ]
          refine tk 12 101 (.slice y1 V.length y2) hHeld rfl (by kernel_rfl) (by kernel_rfl) (by kernel_rfl) (fun _ _ _ h => h) (Or.inl ⟨by rfl, ?_⟩) ?_
          · rintro w ⟨⟨t0, t1, t2⟩, ⟨m0, m1, m2, m3⟩, g0, g1⟩
            go_simp <;> (first | done | (intro _; omega))
          try simp only [Act.put, List.setIfInBounds_toArray, List.set_cons_zero, List.set_cons_succ]
          refine tk 13 102 (.int .i64 (V.length : Int)) hHeld rfl (by kernel_rfl) (by kernel_rfl) (by kernel_rfl) (fun _ _ _ h => h) (Or.inl ⟨by rfl, ?_⟩) ?_
          · rintro w ⟨⟨t0, t1, t2⟩, ⟨m0, m1, m2, m3⟩, g0, g1⟩
            go_simp <;> (first | done | (intro _; omega))
          try simp only [Act.put, List.setIfInBounds_toArray, List.set_cons_zero, List.set_cons_succ]
          refine tk 14 103 (.pointer (some ⟨rb, 1, none⟩)) hHeld rfl (by kernel_rfl) (by kernel_rfl) (by kernel_rfl) (fun _ _ _ h => h) (Or.inl ⟨by rfl, ?_⟩) ?_
          · rintro w ⟨⟨t0, t1, t2⟩, ⟨m0, m1, m2, m3⟩, g0, g1⟩
            go_simp <;> (first | done | (intro _; omega))
          try simp only [Act.put, List.setIfInBounds_toArray, List.set_cons_zero, List.set_cons_succ]
          refine tk 15 104 (.pointer (some ⟨rb, 1, none⟩)) hHeld rfl (by kernel_rfl) (by kernel_rfl) (by kernel_rfl) (fun _ _ _ h => h) (Or.inl ⟨by rfl, ?_⟩) ?_
          · rintro w ⟨⟨t0, t1, t2⟩, ⟨m0, m1, m2, m3⟩, g0, g1⟩
            go_simp <;> (first | done | (intro _; omega))
          try simp only [Act.put, List.setIfInBounds_toArray, List.set_cons_zero, List.set_cons_succ]
          refine tk 16 105 (.slice x1 V.length x2) hHeld rfl (by kernel_rfl) (by kernel_rfl) (by kernel_rfl) (fun _ _ _ h => h) (Or.inl ⟨by rfl, ?_⟩) ?_
          · rintro w ⟨⟨t0, t1, t2⟩, ⟨m0, m1, m2, m3⟩, g0, g1⟩
            go_simp <;> (first | done | (intro _; omega))
          try simp only [Act.put, List.setIfInBounds_toArray, List.set_cons_zero, List.set_cons_succ]
          refine tk 17 106 (.int .i64 (V.length : Int)) hHeld rfl (by kernel_rfl) (by kernel_rfl) (by kernel_rfl) (fun _ _ _ h => h) (Or.inl ⟨by rfl, ?_⟩) ?_
          · rintro w ⟨⟨t0, t1, t2⟩, ⟨m0, m1, m2, m3⟩, g0, g1⟩
            go_simp <;> (first | done | (intro _; omega))
          try simp only [Act.put, List.setIfInBounds_toArray, List.set_cons_zero, List.set_cons_succ]
          refine tk 18 107 (.bool true) hHeld rfl (by kernel_rfl) (by kernel_rfl) (by kernel_rfl) (fun _ _ _ h => h) (Or.inl ⟨by rfl, ?_⟩) ?_
          · rintro w ⟨⟨t0, t1, t2⟩, ⟨m0, m1, m2, m3⟩, g0, g1⟩
            go_simp <;> (first | done | (intro _; omega))
          try simp only [Act.put, List.setIfInBounds_toArray, List.set_cons_zero, List.set_cons_succ]
          refine tk 19 108 (.bool true) hHeld rfl (by kernel_rfl) (by kernel_rfl) (by kernel_rfl) (fun _ _ _ h => h) (Or.inl ⟨by rfl, ?_⟩) ?_
          · rintro w ⟨⟨t0, t1, t2⟩, ⟨m0, m1, m2, m3⟩, g0, g1⟩
            go_simp <;> (first | done | (intro _; omega))
          try simp only [Act.put, List.setIfInBounds_toArray, List.set_cons_zero, List.set_cons_succ]
          refine tk 20 109 (.bool true) hHeld rfl (by kernel_rfl) (by kernel_rfl) (by kernel_rfl) (fun _ _ _ h => h) (Or.inl ⟨by rfl, ?_⟩) ?_
          · rintro w ⟨⟨t0, t1, t2⟩, ⟨m0, m1, m2, m3⟩, g0, g1⟩
            go_simp <;> (first | done | (intro _; omega))
          try simp only [Act.put, List.setIfInBounds_toArray, List.set_cons_zero, List.set_cons_succ]
          refine tk 21 110 (.pointer (some ⟨rb, 1, none⟩)) hHeld rfl (by kernel_rfl) (by kernel_rfl) (by kernel_rfl) (fun _ _ _ h => h) (Or.inl ⟨by rfl, ?_⟩) ?_
          · rintro w ⟨⟨t0, t1, t2⟩, ⟨m0, m1, m2, m3⟩, g0, g1⟩
            go_simp <;> (first | done | (intro _; omega))
          try simp only [Act.put, List.setIfInBounds_toArray, List.set_cons_zero, List.set_cons_succ]
          refine tk 22 111 (.pointer (some ⟨rb, 1, none⟩)) hHeld rfl (by kernel_rfl) (by kernel_rfl) (by kernel_rfl) (fun _ _ _ h => h) (Or.inl ⟨by rfl, ?_⟩) ?_
          · rintro w ⟨⟨t0, t1, t2⟩, ⟨m0, m1, m2, m3⟩, g0, g1⟩
            go_simp <;> (first | done | (intro _; omega))
          try simp only [Act.put, List.setIfInBounds_toArray, List.set_cons_zero, List.set_cons_succ]
          refine tk 23 112 (.slice x1 V.length x2) hHeld rfl (by kernel_rfl) (by kernel_rfl) (by kernel_rfl) (fun _ _ _ h => h) (Or.inl ⟨by rfl, ?_⟩) ?_
          · rintro w ⟨⟨t0, t1, t2⟩, ⟨m0, m1, m2, m3⟩, g0, g1⟩
            go_simp <;> (first | done | (intro _; omega))
          try simp only [Act.put, List.setIfInBounds_toArray, List.set_cons_zero, List.set_cons_succ]
          refine tk 24 113 (.int .i64 (V.length : Int)) hHeld rfl (by kernel_rfl) (by kernel_rfl) (by kernel_rfl) (fun _ _ _ h => h) (Or.inl ⟨by rfl, ?_⟩) ?_
          · rintro w ⟨⟨t0, t1, t2⟩, ⟨m0, m1, m2, m3⟩, g0, g1⟩
            go_simp <;> (first | done | (intro _; omega))
          try simp only [Act.put, List.setIfInBounds_toArray, List.set_cons_zero, List.set_cons_succ]
          refine tk 25 114 (.pointer (some ⟨fb, 0, none⟩)) hHeld rfl (by kernel_rfl) (by kernel_rfl) (by kernel_rfl) (fun _ _ _ h => h) (Or.inl ⟨by rfl, ?_⟩) ?_
          · rintro w ⟨⟨t0, t1, t2⟩, ⟨m0, m1, m2, m3⟩, g0, g1⟩
            go_simp <;> (first | done | (intro _; omega))
          try simp only [Act.put, List.setIfInBounds_toArray, List.set_cons_zero, List.set_cons_succ]
          refine tk 26 115 (.slice wa W.length wk) hHeld rfl (by kernel_rfl) (by kernel_rfl) (by kernel_rfl) (fun _ _ _ h => h) (Or.inl ⟨by rfl, ?_⟩) ?_
          · rintro w ⟨⟨t0, t1, t2⟩, ⟨m0, m1, m2, m3⟩, g0, g1⟩
            go_simp <;> (first | done | (intro _; omega))
          try simp only [Act.put, List.setIfInBounds_toArray, List.set_cons_zero, List.set_cons_succ]
          refine tk 27 116 (.int .i64 (W.length : Int)) hHeld rfl (by kernel_rfl) (by kernel_rfl) (by kernel_rfl) (fun _ _ _ h => h) (Or.inl ⟨by rfl, ?_⟩) ?_
          · rintro w ⟨⟨t0, t1, t2⟩, ⟨m0, m1, m2, m3⟩, g0, g1⟩
            go_simp <;> (first | done | (intro _; omega))
          try simp only [Act.put, List.setIfInBounds_toArray, List.set_cons_zero, List.set_cons_succ]
          refine tk 28 117 (.int .i64 (ck : Int)) hHeld rfl (by kernel_rfl) (by kernel_rfl) (by kernel_rfl) (fun _ _ _ h => h) (Or.inl ⟨by rfl, ?_⟩) ?_
          · rintro w ⟨⟨t0, t1, t2⟩, ⟨m0, m1, m2, m3⟩, g0, g1⟩
            go_simp <;> (first | done | (intro _; omega))
          try simp only [Act.put, List.setIfInBounds_toArray, List.set_cons_zero, List.set_cons_succ]
          refine tk 29 118 (.int .i64 ((W.length : Int) + (ck : Int))) hHeld rfl (by kernel_rfl) (by kernel_rfl) (by kernel_rfl) (fun _ _ _ h => h) (Or.inl ⟨by rfl, ?_⟩) ?_
          · rintro w ⟨⟨t0, t1, t2⟩, ⟨m0, m1, m2, m3⟩, g0, g1⟩
            go_simp <;> (first | done | (intro _; omega))
          try simp only [Act.put, List.setIfInBounds_toArray, List.set_cons_zero, List.set_cons_succ]
          refine tk 30 119 (.bool true) hHeld rfl (by kernel_rfl) (by kernel_rfl) (by kernel_rfl) (fun _ _ _ h => h) (Or.inl ⟨by rfl, ?_⟩) ?_
          · rintro w ⟨⟨t0, t1, t2⟩, ⟨m0, m1, m2, m3⟩, g0, g1⟩
            go_simp <;> (first | done | (intro _; omega))
          try simp only [Act.put, List.setIfInBounds_toArray, List.set_cons_zero, List.set_cons_succ]
          refine tk 31 120 (.bool true) hHeld rfl (by kernel_rfl) (by kernel_rfl) (by kernel_rfl) (fun _ _ _ h => h) (Or.inl ⟨by rfl, ?_⟩) ?_
          · rintro w ⟨⟨t0, t1, t2⟩, ⟨m0, m1, m2, m3⟩, g0, g1⟩
            go_simp <;> (first | done | (intro _; omega))
          try simp only [Act.put, List.setIfInBounds_toArray, List.set_cons_zero, List.set_cons_succ]
          refine tk 32 121 (.bool true) hHeld rfl (by kernel_rfl) (by kernel_rfl) (by kernel_rfl) (fun _ _ _ h => h) (Or.inl ⟨by rfl, ?_⟩) ?_
          · rintro w ⟨⟨t0, t1, t2⟩, ⟨m0, m1, m2, m3⟩, g0, g1⟩
            go_simp <;> (first | done | (intro _; omega))
          try simp only [Act.put, List.setIfInBounds_toArray, List.set_cons_zero, List.set_cons_succ]
          refine tk 33 122 (.pointer (some ⟨rb, 1, none⟩)) hHeld rfl (by kernel_rfl) (by kernel_rfl) (by kernel_rfl) (fun _ _ _ h => h) (Or.inl ⟨by rfl, ?_⟩) ?_
          · rintro w ⟨⟨t0, t1, t2⟩, ⟨m0, m1, m2, m3⟩, g0, g1⟩
            go_simp <;> (first | done | (intro _; omega))
          try simp only [Act.put, List.setIfInBounds_toArray, List.set_cons_zero, List.set_cons_succ]
          refine tk 34 123 (.pointer (some ⟨rb, 1, none⟩)) hHeld rfl (by kernel_rfl) (by kernel_rfl) (by kernel_rfl) (fun _ _ _ h => h) (Or.inl ⟨by rfl, ?_⟩) ?_
          · rintro w ⟨⟨t0, t1, t2⟩, ⟨m0, m1, m2, m3⟩, g0, g1⟩
            go_simp <;> (first | done | (intro _; omega))
          try simp only [Act.put, List.setIfInBounds_toArray, List.set_cons_zero, List.set_cons_succ]
          refine tk 35 124 (.slice x1 V.length x2) hHeld rfl (by kernel_rfl) (by kernel_rfl) (by kernel_rfl) (fun _ _ _ h => h) (Or.inl ⟨by rfl, ?_⟩) ?_
          · rintro w ⟨⟨t0, t1, t2⟩, ⟨m0, m1, m2, m3⟩, g0, g1⟩
            go_simp <;> (first | done | (intro _; omega))
          try simp only [Act.put, List.setIfInBounds_toArray, List.set_cons_zero, List.set_cons_succ]
          refine tk 36 125 (.int .i64 (V.length : Int)) hHeld rfl (by kernel_rfl) (by kernel_rfl) (by kernel_rfl) (fun _ _ _ h => h) (Or.inl ⟨by rfl, ?_⟩) ?_
          · rintro w ⟨⟨t0, t1, t2⟩, ⟨m0, m1, m2, m3⟩, g0, g1⟩
            go_simp <;> (first | done | (intro _; omega))
          try simp only [Act.put, List.setIfInBounds_toArray, List.set_cons_zero, List.set_cons_succ]
          refine tk 37 126 (.agg #[.slice wa W.length wk, .slice fa F.length fc, .slice ca n cc]) hHeld rfl (by kernel_rfl) (by kernel_rfl) (by kernel_rfl) (fun _ _ _ h => h) (Or.inl ⟨by rfl, ?_⟩) ?_
          · rintro w ⟨⟨t0, t1, t2⟩, ⟨m0, m1, m2, m3⟩, g0, g1⟩
            go_simp <;> (first | done | (intro _; omega))
          try simp only [Act.put, List.setIfInBounds_toArray, List.set_cons_zero, List.set_cons_succ]
          refine tk 38 127 (.slice la es.length lc) hHeld rfl (by kernel_rfl) (by kernel_rfl) (by kernel_rfl) (fun _ _ _ h => h) (Or.inl ⟨by rfl, ?_⟩) ?_
          · rintro w ⟨⟨t0, t1, t2⟩, ⟨m0, m1, m2, m3⟩, g0, g1⟩
            go_simp <;> (first | done | (intro _; omega))
          try simp only [Act.put, List.setIfInBounds_toArray, List.set_cons_zero, List.set_cons_succ]
          refine wpAnyH_ready (rs := [39]) (by kernel_rfl) (by simp) ?_
          refine AllReadyH.cons rfl (fun K hK => ?_) AllReadyH.nil
          go_simp
          refine (HSq.out _ BB7.out).mono ?_
          rintro e w8 hres
          obtain ⟨z1, z2, z3, z4, z5, z6, rfl, hg8, hb8⟩ := hres.gf
          have BB8 := hide (BB7.out.trans (hb8.mono BB7.out.size))
          clear hres hg8 hb8
          go_wp2_with fail
          refine hK.out _ _ (KB.out _ BB8.out) (fun hHeld => ?_)
          clear hK K
          try simp only [Act.put, List.setIfInBounds_toArray, List.set_cons_zero, List.set_cons_succ]
          refine tk 40 129 (.agg #[.slice z1 V.length z2, .slice z3 F.length z4, .slice z5 n z6]) hHeld rfl (by kernel_rfl) (by kernel_rfl) (by kernel_rfl) (fun _ _ _ h => h) (Or.inl ⟨by rfl, ?_⟩) ?_
          · rintro w ⟨⟨t0, t1, t2⟩, ⟨m0, m1, m2, m3⟩, g0, g1⟩
            kernel_rfl
          try simp only [Act.put, List.setIfInBounds_toArray, List.set_cons_zero, List.set_cons_succ]
          refine tk 41 130 (.slice z1 V.length z2) hHeld rfl (by kernel_rfl) (by kernel_rfl) (by kernel_rfl) (fun _ _ _ h => h) (Or.inl ⟨by rfl, ?_⟩) ?_
          · rintro w ⟨⟨t0, t1, t2⟩, ⟨m0, m1, m2, m3⟩, g0, g1⟩
            kernel_rfl
          try simp only [Act.put, List.setIfInBounds_toArray, List.set_cons_zero, List.set_cons_succ]
          refine tk 42 131 (.int .i64 (V.length : Int)) hHeld rfl (by kernel_rfl) (by kernel_rfl) (by kernel_rfl) (fun _ _ _ h => h) (Or.inl ⟨by rfl, ?_⟩) ?_
          · rintro w ⟨⟨t0, t1, t2⟩, ⟨m0, m1, m2, m3⟩, g0, g1⟩
            go_simp <;> (first | done | (intro _; omega))
          try simp only [Act.put, List.setIfInBounds_toArray, List.set_cons_zero, List.set_cons_succ]
          refine tk 43 132 (.bool true) hHeld rfl (by kernel_rfl) (by kernel_rfl) (by kernel_rfl) (fun _ _ _ h => h) (Or.inl ⟨by rfl, ?_⟩) ?_
          · rintro w ⟨⟨t0, t1, t2⟩, ⟨m0, m1, m2, m3⟩, g0, g1⟩
            go_simp <;> (first | done | (intro _; omega))
          try simp only [Act.put, List.setIfInBounds_toArray, List.set_cons_zero, List.set_cons_succ]
          refine tk 44 133 (.bool true) hHeld rfl (by kernel_rfl) (by kernel_rfl) (by kernel_rfl) (fun _ _ _ h => h) (Or.inl ⟨by rfl, ?_⟩) ?_
          · rintro w ⟨⟨t0, t1, t2⟩, ⟨m0, m1, m2, m3⟩, g0, g1⟩
            go_simp <;> (first | done | (intro _; omega))
          try simp only [Act.put, List.setIfInBounds_toArray, List.set_cons_zero, List.set_cons_succ]
          refine tk 45 2 (.bool true) hHeld rfl (by kernel_rfl) (by kernel_rfl) (by kernel_rfl) (fun _ _ _ h => h) (Or.inl ⟨by rfl, ?_⟩) ?_
          · rintro w ⟨⟨t0, t1, t2⟩, ⟨m0, m1, m2, m3⟩, g0, g1⟩
            go_simp <;> (first | done | (intro _; omega))
          try simp only [Act.put, List.setIfInBounds_toArray, List.set_cons_zero, List.set_cons_succ]
          refine wpAnyH_done (by kernel_rfl) ?_ _
          go_wp2_with fail
          go_ret
          exact ⟨rfl, below_next B4.out BB8.out⟩
end Go.Proofs.YtejfcapocikjmaaGreatDoor.fnAsks

