/-
  Texts put together: LazK LazR LazS MapF.
-/
import Derived.Test.YtejipahfodhmjaaGreatKLater11
import Derived.Test.YtejipahfodhmjaaGreatKLater15
import Derived.Test.YtejipahfodhmjaaGreatKLater18
import Derived.Deep.CutBlock
import Derived.Test.YtejipahfodhmjaaGreatKLater17
import Derived.Deep.RegionHeld3
namespace Go.Proofs.YtejipahfodhmjaaGreat
open Go.RowKit Go.Maps
set_option linter.unusedVariables false
attribute [local go_sem ↓] Go.wp_at_zero Go.wp_at_succ

theorem GA.lo {B B' : Nat} {w : World} {v : Value} {D : Nat → Int} {P : Nat → List Int} {n : Nat} (h : GA B w v D P n) (hB : B' ≤ B) : GA B' w v D P n := by
  obtain ⟨A, C, h1, h2⟩ := h
  exact ⟨A, C, ownsRow_mono h1 hB, fun i hi => ownsRow_mono (h2 i hi) hB⟩
theorem GA.rdC {B : Nat} {w : World} {a : Option Addr} {c n : Nat} {D : Nat → Int} {P : Nat → List Int} (h : GA B w (.slice a n c) D P n) : RdC w a D P n := by
  obtain ⟨A, C, h1, h2⟩ := h
  exact RdC.of_rows h1 (fun i hi => reads_owned (h2 i hi) rfl)
theorem StL.rdAt {lo : Nat} {w : World} {v : Value} {rs : List Ly} (h : StL lo w v rs) {i : Nat} {x : Ly} (hx : rs[i]? = some x) : RdE w x.a x.es := by
  obtain ⟨qs, h1, h2, h3⟩ := h.each i x hx
  have hse : SE lo w (.slice x.a x.es.length x.c) x.es := ⟨qs, h1, h2, fun r hr => ownInts_reads (h3 r hr) rfl⟩
  exact hse.rd
structure Wth (lo : Nat) (u : World) (va : Option Addr) (N vc : Nat) (rs : List Ly) (ca : Option Addr) (n cc : Nat) (D : Nat → Int) (P : Nat → List Int) : Prop where
  lays : ∀ x ∈ rs, LyS x.es
  len : rs.length = N
  st : StL lo u (.slice va N vc) rs
  ch : GA lo u (.slice ca n cc) D P n
  many : n ≤ 41
  small : ∀ i, i < n → U8 (P i) ∧ (P i).length ≤ 9
theorem Wth.kept {S : Nat → Prop} {lo : Nat} {u u' : World} {va : Option Addr} {N vc : Nat} {rs : List Ly} {ca : Option Addr} {n cc : Nat} {D : Nat → Int} {P : Nat → List Int} (h : Wth lo u va N vc rs ca n cc D P) (hk : Kept S u u') (hS : ∀ b, S b → b < lo) : Wth lo u' va N vc rs ca n cc D P :=
  ⟨h.lays, h.len, h.st.kept hk hS, h.ch.kept hk (fun b hb e => by have := hS b e; omega), h.many, h.small⟩
theorem Wth.below {lo : Nat} {u u' : World} {va : Option Addr} {N vc : Nat} {rs : List Ly} {ca : Option Addr} {n cc : Nat} {D : Nat → Int} {P : Nat → List Int} (h : Wth lo u va N vc rs ca n cc D P) (hk : Below u.heap.size u u') : Wth lo u' va N vc rs ca n cc D P :=
  h.kept (S := fun _ => False) (Kept.of_below hk) (fun _ e => e.elim)
theorem Wth.good {lo : Nat} {u : World} {va : Option Addr} {N vc : Nat} {rs : List Ly} {ca : Option Addr} {n cc : Nat} {D : Nat → Int} {P : Nat → List Int} (h : Wth lo u va N vc rs ca n cc D P) (h5 : N ≤ 5) : GoodLs (rs.map Ly.es) :=
  goodLs_of (by rw [h.len]; exact h5) (fun x hx => ⟨(h.lays x hx).1.goodH, (h.lays x hx).2⟩)
theorem Wth.hP {lo : Nat} {u : World} {va : Option Addr} {N vc : Nat} {rs : List Ly} {ca : Option Addr} {n cc : Nat} {D : Nat → Int} {P : Nat → List Int} (h : Wth lo u va N vc rs ca n cc D P) : ∀ i, i < n → U8 (P i) ∧ (P i).length ≤ 1048576 := fun i hi => ⟨(h.small i hi).1, by have := (h.small i hi).2; omega⟩
theorem Wth.store {lo : Nat} {w : World} {va : Option Addr} {N vc : Nat} {rs : List Ly} {ca : Option Addr} {n cc : Nat} {D : Nat → Int} {P : Nat → List Int} {i k G : Nat} {x : Ly} {e0 : En} {zs : List Int} {a : Option Addr} {ac : Nat} (h : Wth lo w va N vc rs ca n cc D P) (hx : rs[i]? = some x) (hG : x.a = some ⟨G, 0, none⟩) (he : x.es[k]? = some e0) (h1 : e0.kind = 1) (hz : zs.length ≤ 24)
    (hown : w.ownsRow lo 2 1 (.slice a (cut zs).length ac) (cut zs).length ((digs zs (cut zs).length).map (Value.int .i64))) :
    Wth lo ((((w.setCell ⟨G, k * 4, none⟩ (.string (str e0.path))).setCell ⟨G, k * 4 + 1, none⟩ (.int .i64 1)).setCell ⟨G, k * 4 + 2, none⟩ (.int .i64 zs.length)).setCell ⟨G, k * 4 + 3, none⟩ (.slice a (cut zs).length ac)) va N vc (rs.set i ⟨x.es.set k (fileE e0.path zs), x.a, x.c⟩) ca n cc D P := by
  have hk : k < x.es.length := (List.getElem?_eq_some_iff.1 he).1
  have hle : (fileE e0.path zs).chunks.length = (cut zs).length := digs_length _ _
  have hs := StL.store (e := fileE e0.path zs) h.st hx hG hk (show w.ownsRow lo 2 1 (.slice a (fileE e0.path zs).chunks.length ac) (fileE e0.path zs).chunks.length ((fileE e0.path zs).chunks.map (Value.int .i64)) by rw [hle]; exact hown)
  rw [hle] at hs
  have hkp := four_keptL w G (k * 4) (.string (str e0.path)) (.int .i64 1) (.int .i64 zs.length) (.slice a (cut zs).length ac)
  obtain ⟨qs, q1, q2, q3⟩ := h.st.each i x hx
  have q2' := q2
  unfold lyV at q2'
  rw [hG] at q2'
  refine ⟨lyS_set h.lays ((h.lays x (List.mem_of_getElem? hx)).set he h1 hz), by rw [List.length_set]; exact h.len, hs, ?_, h.many, h.small⟩
  obtain ⟨A, C, c1, c2⟩ := h.ch
  exact ⟨A, C, ownsRow_kept c1 hkp (fun b hb hS => by subst hS; exact ownsRow_apart q2' c1 (by decide) rfl hb), fun i hi => ownsRow_kept (c2 i hi) hkp (fun b hb hS => by subst hS; exact ownsRow_apart q2' (c2 i hi) (by decide) rfl hb)⟩
theorem pth_ne {ls : List (List En)} (h : pthL ls ≠ []) : layersP ls = 0 := by
  by_cases h0 : layersP ls = 0
  · exact h0
  · rw [pthL, if_neg h0] at h; exact absurd rfl h
def WthR (w : World) (e : Ending) (w' : World) : Prop :=
  ∃ (va : Option Addr) (vc : Nat) (ls : List (List En)) (ca : Option Addr) (cc n : Nat) (D : Nat → Int) (P : Nat → List Int) (q : Bs), e = .returned (.tuple #[.slice va ls.length vc, .slice ca n cc, .string (str q)]) ∧ GoodLs ls ∧ RdL w' va ls ∧ RdC w' ca D P n ∧ n ≤ 41 ∧ (∀ i, i < n → U8 (P i) ∧ (P i).length ≤ 9) ∧ q.length ≤ 1048576 ∧ Below w.heap.size w w'
theorem WthR.of {lo N vc n cc : Nat} {w u : World} {va ca : Option Addr} {rs : List Ly} {D : Nat → Int} {P : Nat → List Int} {q : Bs} (h : Wth lo u va N vc rs ca n cc D P) (h5 : N ≤ 5) (hq : q.length ≤ 1048576) (hb : Below w.heap.size w u) : WthR w (.returned (.tuple #[.slice va N vc, .slice ca n cc, .string (str q)])) u := by
  have hl : (rs.map Ly.es).length = N := by rw [List.length_map]; exact h.len
  refine ⟨va, vc, rs.map Ly.es, ca, cc, n, D, P, q, by rw [hl], h.good h5, h.st.rd, h.ch.rdC, h.many, h.small, hq, hb⟩
set_option maxRecDepth 100000 in
set_option maxHeartbeats 12800000 in
theorem l11With_any (a : Option Addr) (cap : Nat) (zs : List Int) (w : World) (h : Reads .u8 w a zs) (hu : U8 zs) (hl : zs.length ≤ 1048576) :
    Calls Tryz.prog 31 #[.slice a zs.length cap] w (WthR w) := by
  have HR := hide h
  have HU := hide hu
  have hl2 : zs.length ≤ 2097152 := by omega
  clear h hu
  go_enter Tryz.func31, Tryz.ntmps31
  go_wp2_with fail
  refine (l1Source_any a cap zs _ HR.out).mono ?_
  rintro r w1 ⟨rfl, s1, z1, b1⟩
  have S1 := hide (show SrcX w1 w.heap.size zs 0 from ⟨0, by decide, by decide, s1⟩)
  have B1 := hide b1
  have hp1 : w.heap.size < w1.heap.size := S1.out.lt
  have HZ1 := hide z1
  clear s1 b1 z1
  obtain ⟨p, hp⟩ : ∃ p, p = w.heap.size := ⟨_, rfl⟩
  rw [← hp] at S1 hp1 ⊢
  have HPw := hide hp
  clear hp
  have BEL := hide (fun (u : World) (hk : Kept (fun b => b = p) w1 u) => show Below w.heap.size w u from B1.out.trans (hk.below (B := w.heap.size) B1.out.size (fun b hb e => by have := HPw.out; omega)))
  go_wp2_with fail
  refine (l11Layers_s p zs 0 _ S1.out HU.out (by decide) hl2).mono ?_
  rintro r w2 ⟨v, rs, rfl, h5, hly, hSt, s2, k2⟩
  obtain ⟨va, vc, rfl⟩ := hSt.shape
  have HL := hide hly
  have St2 := hide hSt
  have S2 := hide s2
  have K2 := hide k2
  have hs2 := k2.size
  clear hly hSt s2 k2 S1
  go_wp2_with fail
  refine (l11Chunks_s p zs _ _ S2.out HU.out (by decide) hl2).mono ?_
  rintro r w3 ⟨g, cv, n, D, P, rfl, hcv, hC, s3, k3⟩
  have S3 := hide s3
  have K3 := hide (K2.out.trans k3)
  have W3 := hide (show Wth w1.heap.size w3 va rs.length vc rs (some ⟨g, 0, none⟩) n cv D P from ⟨HL.out, rfl, St2.out.kept k3 (fun b e => by omega), hC.own.ga.lo hs2, by have := hC.right.many; omega, fun i hi => ⟨hC.u8 i hi, by have := (hC.right.len i hi).2; omega⟩⟩)
  clear s3 k3 hC S2 K2 St2 HL hcv
  obtain ⟨N, hN⟩ : ∃ N, N = rs.length := ⟨_, rfl⟩
  rw [← hN] at W3 h5 ⊢
  clear hN
  go_wp2_with fail
  refine (chance_e p zs _ 12 _ S3.out HU.out (by decide) (by decide) (by decide) hl2).mono ?_
  rintro r w4 ⟨ch, rfl, s4, k4⟩
  have S4 := hide s4
  have K4 := hide (K3.out.trans k4)
  have W4 := hide (W3.out.kept k4 (fun b e => by omega))
  have hs4 := K4.out.size
  clear s4 k4 S3 K3 W3
  go_upto_if 25 with fail
  go_cut [7] from 26 to 117 (fun v7 wc => ∃ (ca : Option Addr) (n cc : Nat) (D : Nat → Int) (P : Nat → List Int), v7 = .slice ca n cc ∧ Hid (Wth w1.heap.size wc va N vc rs ca n cc D P) ∧ Hid (SrcX wc p zs 8000) ∧ Hid (Kept (fun b => b = p) w1 wc))
  case first =>
    cases ch with
    | false =>
      go_wp2_with fail
      go_meet
      case rel => exact ⟨_, _, _, _, _, rfl, W4, hide (S4.out.mono (by decide)), K4⟩
    | true =>
      obtain ⟨t, ht0, ht1, hsr⟩ := S4.out
      have HB := hide (l2Bent_any p zs t w4 hsr HU.out ht0 (by omega) hl)
      clear hsr
      go_wp2_with fail
      refine HB.out.mono ?_
      rintro r w5 ⟨g5, cv5, n5, D5, P5, t5, rfl, hcv5, hn5, hL5, hG5, s5, ht5, ht6, k5⟩
      have W5 := hide (show Wth w1.heap.size w5 va N vc rs (some ⟨g5, 0, none⟩) n5 cv5 D5 P5 from ⟨W4.out.lays, W4.out.len, W4.out.st.kept k5 (fun b e => by omega), hG5.mono (by omega), hn5, hL5⟩)
      have S5 := hide (show SrcX w5 p zs 8000 from ⟨t5, ht5, by omega, s5⟩)
      have K5 := hide (K4.out.trans k5)
      clear hG5 s5 k5
      go_wp2_with fail
      go_meet
      case rel => exact ⟨_, _, _, _, _, rfl, W5, S5, K5⟩
  case rest =>
    obtain ⟨ca, n, cc, D, P, rfl, W5, S5, K5⟩ := hcut
    clear W4 S4 K4 hs4
    obtain ⟨w5, hw5⟩ : ∃ w5, w5 = wc := ⟨_, rfl⟩
    subst hw5
    go_wp2_with fail
    refine (bent_e p zs _ _ S5.out HU.out (by decide) hl2).mono ?_
    rintro r w6 ⟨q0, rfl, hq0, s6, k6⟩
    have S6 := hide s6
    have K6 := hide (K5.out.trans k6)
    have W6 := hide (W5.out.kept k6 (fun b e => by omega))
    clear s6 k6 S5 K5 W5
    have HGD := hide (W6.out.good h5)
    have hlen : (rs.map Ly.es).length = N := by rw [List.length_map]; exact W6.out.len
    have HLEN := hide hlen
    obtain ⟨ls, hls⟩ : ∃ ls, ls = rs.map Ly.es := ⟨_, rfl⟩
    have HLS := hide hls
    rw [← hls] at HGD HLEN
    clear hlen hls
    have hgg := HGD.out
    have HPO := hide (specPathsOver_any va vc N ls w6 (by rw [HLS.out]; exact W6.out.st.rd) HLEN.out.symm (by have := hgg.1; omega) hgg.2.1 (fun es he => (hgg.2.2 es he).2))
    clear hgg
    go_wp2_with fail
    refine HPO.out.mono ?_
    rintro r w7 ⟨na, nc, rfl, hN7, hb7⟩
    have S7 := hide (S6.out.below hb7)
    have K7 := hide (K6.out.trans (Kept.of_below hb7))
    have W7 := hide (W6.out.below hb7)
    have N7 := hide hN7
    have hs6 := K6.out.size
    have hfd : ∀ (w : World) (v : Value), (Instr.field 52 (.agg #[.int .i64 (layersP ls), v]) 1).run Tryz.prog w = .ok v w := fun _ _ => by kernel_rfl
    obtain ⟨NL, hNL⟩ : ∃ NL, NL = (pthL ls).length := ⟨_, rfl⟩
    rw [← hNL] at N7 ⊢
    have HNL := hide hNL
    have hNL60 : NL ≤ 60 := by
      rw [hNL]
      by_cases h0 : layersP ls = 0
      · obtain ⟨h4, hR⟩ := layersP_zero.1 h0
        have h1 := all_len hR ls.length (Nat.le_refl _)
        rw [List.take_length] at h1
        rw [pthL, if_pos h0, List.length_map]
        omega
      · rw [pthL, if_neg h0]; simp
    clear hN7 hb7 S6 K6 W6 HPO hNL
    generalize layersP ls = LP at *
    go_wp2_with fail
    go_loopw [7, 8, 10, 11, 12] (fun v7 v8 v10 _ _ wr => ∃ (k : Nat) (q : Bs), k ≤ 3 ∧ v7 = .slice ca n cc ∧ v10 = .int .i64 k ∧ v8 = .string (str q) ∧ q.length ≤ 1048576 ∧ Hid (Wth w1.heap.size wr va N vc rs ca n cc D P) ∧ Hid (OwnS w6.heap.size wr (.slice na NL nc) (pthL ls)) ∧ Hid (SrcX wr p zs (8005 + k)) ∧ Hid (Kept (fun b => b = p) w1 wr)) (fun _ _ v10 _ _ _ => 3 - (intOf v10).toNat)
    case atStart => exact ⟨0, q0, by omega, rfl, rfl, rfl, by omega, W7, N7, hide (by simpa using S7.out), K7⟩
    case round =>
      clear W7 N7 S7 K7
      obtain ⟨k, q, hk, rfl, rfl, rfl, hql, WW, NN, SS, KK⟩ := hrel
      by_cases hk3 : k < 3
      · have hk3' : (k : Int) < 3 := by omega
        by_cases hpos : 0 < NL
        · have hpos' : (0 : Int) < (NL : Int) := by omega
          go_wp2_with fail
          refine (next_e p zs _ (NL : Int) _ SS.out HU.out (by omega) (by omega) (by omega) hl2).mono ?_
          rintro r w8 ⟨nv, rfl, hnv, s8, k8⟩
          have S8 := hide s8
          have K8 := hide (KK.out.trans k8)
          have W8 := hide (WW.out.kept k8 (fun b e => by omega))
          have N8 := hide (OwnS.keptP NN.out k8 (by omega))
          clear s8 k8 WW NN SS KK
          have hnv' : nv < NL := by omega
          obtain ⟨nb, off, q2, hna, hnb, hq2, hcn⟩ := N8.out.reads.at (k := nv) (by rw [← HNL.out]; exact hnv')
          subst hna
          have hz := pth_ne (ls := ls) (by intro e; rw [e] at hq2; simp at hq2)
          obtain ⟨h4, hR⟩ := layersP_zero.1 hz
          have hpt : pthL ls = (allE ls).map En.path := by rw [pthL, if_pos hz]
          rw [hpt, List.getElem?_map] at hq2
          obtain ⟨e, he, hep⟩ := Option.map_eq_some_iff.1 hq2
          have hA := all_fit (rights_fit hR)
          have hem := List.mem_of_getElem? he
          have hfind : findE (allE ls) q2 = some e := by rw [← hep]; exact rise_find hA.fit.rise hem
          have hq2f : faultP q2 = 0 := by rw [← hep]; exact hA.fit.path hem
          have hq2l : q2.length ≤ 1048576 := by rw [← hep]; exact all_path_len hR HGD.out.2.1 h4 e hem
          have HLY := hide (l8Look_yes va vc N ls q2 w8 (by rw [HLS.out]; exact W8.out.st.rd) HLEN.out.symm h4 hR hq2f hq2l e hfind)
          have hnv0 : (0 : Int) ≤ (nv : Int) := by omega
          have hnv1 : (nv : Int) < (NL : Int) := by omega
          clear hz h4 hR hpt hq2 he hep hA hem hfind hq2f hql
          go_wp2_with fail
          refine HLY.out.mono ?_
          rintro r w9 ⟨x9, c9, rfl, -, hb9⟩
          have A9 := hide (below_alloc w9 (.cells #[.string (str e.path), .int .i64 e.kind, .int .i64 e.size, .slice x9 e.chunks.length c9] 40))
          have F9 := hide (Four.new w9 (.string (str e.path)) (.int .i64 e.kind) (.int .i64 e.size) (.slice x9 e.chunks.length c9) 40)
          have BB9 := hide (below_next hb9 A9.out)
          have W9 := hide (W8.out.below BB9.out)
          have S9 := hide (S8.out.below BB9.out)
          have N9 := hide (N8.out.below BB9.out)
          have K9 := hide (K8.out.trans (Kept.of_below BB9.out))
          clear hb9 A9 BB9 W8 S8 N8 K8 HLY hcn
          obtain ⟨f0, f1, f2, f3⟩ := F9.out
          by_cases hk1 : e.kind = 1
          · have hkb : (e.kind == 1) = true := by simpa using hk1
            clear hk1
            go_wp2_with fail
            clear f0 f1 f2 f3
            generalize w9.alloc (.cells #[.string (str e.path), .int .i64 e.kind, .int .i64 e.size, .slice x9 e.chunks.length c9] 40) = W9w at *
            refine (chance_e p zs _ 2 _ S9.out HU.out (by omega) (by decide) (by decide) hl2).mono ?_
            rintro r w10 ⟨ch2, rfl, s10, k10⟩
            have S10 := hide (show SrcX w10 p zs 8010 from s10.mono (by omega))
            have K10 := hide (K9.out.trans k10)
            have W10 := hide (W9.out.kept k10 (fun b e => by omega))
            clear s10 k10 S9 K9 W9 F9 N9
            cases ch2 with
            | false =>
              go_wp2_with fail
              exact bodyPost_ret (v := .tuple #[.slice va N vc, .slice ca n cc, .string (str q2)]) (by simp [results, Tryz.results31, go_sem]) rfl (WthR.of W10.out h5 hq2l (BEL.out _ K10.out))
            | true =>
              go_wp2_with fail
              go_loopw [7, 13, 14, 15, 16, 17] (fun v7 v13 _ _ _ _ wx => ∃ (i : Nat) (rs : List Ly) (ca : Option Addr) (n cc : Nat) (D : Nat → Int) (P : Nat → List Int), i ≤ N ∧ v7 = .slice ca n cc ∧ v13 = .int .i64 i ∧ Hid (Wth w1.heap.size wx va N vc rs ca n cc D P) ∧ Hid (SrcX wx p zs (8010 + 30 * i)) ∧ Hid (Kept (fun b => b = p) w1 wx)) (fun _ v13 _ _ _ _ _ => N - (intOf v13).toNat)
              case atStart => exact ⟨0, rs, ca, n, cc, D, P, Nat.zero_le _, rfl, rfl, W10, hide (by simpa using S10.out), K10⟩
              case round =>
                clear W10 S10 K10
                obtain ⟨i, rs, ca, n, cc, D, P, hi, rfl, rfl, WW, SS, KK⟩ := hrel
                by_cases hiN : i < N
                · have hiN' : (i : Int) < (N : Int) := by omega
                  have hi0 : (0 : Int) ≤ (i : Int) := by omega
                  obtain ⟨x, hx⟩ : ∃ x, rs[i]? = some x := ⟨rs[i]'(by rw [WW.out.len]; exact hiN), List.getElem?_eq_getElem _⟩
                  have HX := hide hx
                  have hx13 := (WW.out.lays x (List.mem_of_getElem? hx)).2.1
                  have HAT := hide (l4At_any x.a x.c x.es.length x.es q2 wr (WW.out.st.rdAt hx) rfl (by omega))
                  cases hat : atE x.es q2 with
                  | none =>
                    rw [hat, show placeI none = -1 from rfl] at HAT
                    obtain ⟨g, hva, c0⟩ := WW.out.st.rowAt hx
                    subst hva
                    clear hat hx
                    go_wp2_with fail
                    refine HAT.out.mono ?_
                    rintro r w11 ⟨rfl, hw11⟩
                    have hw12 := hw11.symm
                    clear hw11
                    subst hw12
                    go_wp2_with fail
                    go_roundw
                    case rel => exact ⟨i + 1, rs, ca, n, cc, D, P, by omega, rfl, by go_num, WW, hide (SS.out.mono (by omega)), KK⟩
                    case measure => simp [intOf]; omega
                  | some t =>
                    rw [hat, show placeI (some t) = (t : Int) from rfl] at HAT
                    have htl := atE_lt hat
                    obtain ⟨e1, he1⟩ : ∃ e1, x.es[t]? = some e1 := ⟨x.es[t]'htl, List.getElem?_eq_getElem _⟩
                    have hep : e1.path = q2 := by
                      have hfe := atE_find x.es q2
                      rw [hat] at hfe
                      simp only [Option.bind_some, he1] at hfe
                      exact (find_mem hfe).2
                    have HEP := hide hep
                    have HE1 := hide he1
                    obtain ⟨g, G, y, yc, hva, hgl, c0, hG, hGlo, hGl, hGg, z0, z1, z2, z3, hfr⟩ := WW.out.st.at hx he1
                    subst hva
                    have HG := hide hG
                    rw [hG] at HAT
                    have hgp : g ≠ p := fun e9 => by have := (WW.out.st.row.lt g rfl).1; omega
                    have KB := hide (fun (u : World) (hu : Kept (fun b => b = p) wr u) => (hu.cell (p := ⟨g, i, none⟩) hgl hgp).trans c0)
                    have ht0 : (0 : Int) ≤ (t : Int) := by omega
                    have ht1 : (t : Int) < (x.es.length : Int) := by omega
                    clear hat hx he1 hep hG z0 z2 z3 hfr
                    by_cases hk2 : e1.kind = 1
                    · have hkb2 : (e1.kind == 1) = true := by simpa using hk2
                      have HK2 := hide hk2
                      clear hk2
                      go_wp2_with fail
                      refine HAT.out.mono ?_
                      rintro r w11 ⟨rfl, hw11⟩
                      have hw12 := hw11.symm
                      clear hw11
                      subst hw12
                      go_wp2_with fail
                      refine (next_e p zs _ 20 _ SS.out HU.out (by omega) (by decide) (by decide) hl2).mono ?_
                      rintro r w12 ⟨nv2, rfl, hnv2, s12, k12⟩
                      have S12 := hide s12
                      have K12 := hide k12
                      obtain ⟨m, hm1, hm2⟩ : ∃ m : Nat, (m : Int) = 1 + (nv2 : Int) ∧ m ≤ 20 := ⟨1 + nv2, by omega, by omega⟩
                      have hwn : IntKind.i64.wrap (1 + (nv2 : Int)) = (m : Int) := by rw [← hm1]; simp [IntKind.wrap, IntKind.signed, IntKind.bits]; omega
                      clear s12 k12 hnv2 hm1 c0 z1
                      go_wp2_with fail
                      refine (some_e p m zs _ _ S12.out HU.out (by omega) hl2 (by omega)).mono ?_
                      rintro r w13 ⟨a3, c3, ds, rfl, hdl, hud, ho3, s13, k13⟩
                      subst hdl
                      have S13 := hide s13
                      have K13 := hide (K12.out.trans k13)
                      have O13 := hide ho3
                      have hcap := ownsRow_cap ho3
                      have UD := hide hud
                      have W13 := hide (WW.out.kept K13.out (fun b e => by omega))
                      have hs13 := K13.out.size
                      have hwl := KK.out.size
                      clear s13 k13 ho3 hud K12 S12
                      have c0 := KB.out w13 K13.out
                      have KD := hide (K13.out.trans (Kept.of_below (Below.refl w13.heap.size w13).drew))
                      go_upto_region 21 with fail
                      clear c0
                      go_region_held3 (fun u => u.cell? ⟨g, i, none⟩ = some (.slice (some ⟨G, 0, none⟩) x.es.length x.c)) (first | exact KB.out _ K14.out | exact KB.out _ KD.out | exact KS.out | go_keep)
                        ((go_at_call 79; refine (l4File_any q2 a3 c3 ds _ (ownInts_reads (ownsRow_below O13.out (Below.refl w13.heap.size w13).drew) rfl) UD.out hcap (by omega)).mono ?_; rintro r w14 ⟨av, cv2, rfl, ho5, hb5⟩; have O14 := hide ho5; have K14 := hide (KD.out.trans (Kept.of_below hb5)); have B14 := hide ((Below.refl w13.heap.size w13).drew.trans hb5); have W14 := hide (W13.out.below B14.out); obtain ⟨g5, G5, y5, yc5, hva5, -, -, hG5, -, -, -, m0, m1, m2, m3, mf⟩ := W14.out.st.at HX.out HE1.out; have e5 : G = G5 := (by have h9 := HG.out.symm.trans hG5; simpa using h9); subst e5; have mf0 := mf (t * 4); have mf1 := mf (t * 4 + 1); have mf2 := mf (t * 4 + 2); have mf3 := mf (t * 4 + 3); have hg5 : g < w14.heap.size := World.block_lt_of_cell? w14 ⟨g, i, none⟩ (KB.out _ K14.out); have KS := hide (((four_keptL w14 G (t * 4) (.string (str q2)) (.int .i64 1) (.int .i64 ds.length) (.slice av (cut ds).length cv2)).cell (p := ⟨g, i, none⟩) hg5 (fun e9 => hGg e9.symm)).trans (KB.out _ K14.out)); clear ho5 hb5 mf hva5 hG5))
                      have KW := hide (four_keptL w14 G (t * 4) (.string (str q2)) (.int .i64 1) (.int .i64 ds.length) (.slice av (cut ds).length cv2))
                      have STR := hide (Wth.store W14.out HX.out HG.out HE1.out HK2.out (by omega) (ownsRow_mono O14.out (by show w1.heap.size ≤ w13.heap.size; omega)))
                      rw [HEP.out] at STR
                      obtain ⟨qs, q1, qq2, q3⟩ := W14.out.st.each i x HX.out
                      unfold lyV at qq2
                      rw [HG.out] at qq2
                      have OD := hide (ownsRow_kept (ownsRow_below O13.out B14.out) KW.out (fun b hb hS => by subst hS; exact ownsRow_apart qq2 (ownsRow_below O13.out B14.out) (by decide) rfl hb))
                      have S14 := hide ((S13.out.below B14.out).kept KW.out (fun b hb e9 => by omega))
                      have K15 := hide (((KK.out.trans K14.out).trans_own KW.out (fun b hb e9 => by omega)))
                      clear m0 m1 m2 m3 mf0 mf1 mf2 mf3 KS qs q1 qq2 q3 KB KD K13 K14 W13 W14 B14 S13 O13 O14 hg5 SS KK WW KW
                      generalize (((w14.setCell ⟨G, t * 4, none⟩ (.string (str q2))).setCell ⟨G, t * 4 + 1, none⟩ (.int .i64 1)).setCell ⟨G, t * 4 + 2, none⟩ (.int .i64 ds.length)).setCell ⟨G, t * 4 + 3, none⟩ (.slice av (cut ds).length cv2) = W15 at *
                      have RD := hide (ownInts_reads OD.out rfl)
                      have HFT := hide (fun (u : World) (hb : Below W15.heap.size W15 u) => specFault_any ca cc n D P u (STR.out.ch.rd.below hb) (by have := STR.out.many; omega) STR.out.hP)
                      by_cases hf : fault D P n = 0
                      · have hR := fault_zero hf
                        rw [hf] at HFT
                        have HLB := hide (l2Bytes_any ca cc n D P a3 c3 ds W15 STR.out.ch.rd hR RD.out UD.out hcap (by omega))
                        have HU8 := hide (runS_u8 (s := (D, P, n)) (Z := piece ds) (fun i hi => (STR.out.small i hi).1) (fun j => UD.out.piece j) (cut ds).length)
                        generalize runS (D, P, n) (piece ds) (cut ds).length = RS at *
                        clear hf hR
                        go_wp2_with fail
                        refine HLB.out.mono ?_
                        rintro r w16 ⟨hpost, hb16⟩
                        have S16 := hide (S14.out.below hb16)
                        have K16 := hide (K15.out.trans (Kept.of_below hb16))
                        have W16 := hide (STR.out.below hb16)
                        cases RS with
                        | none =>
                          simp only at hpost
                          subst hpost
                          clear hb16
                          go_wp2_with fail
                          go_roundw
                          case rel => exact ⟨i + 1, rs.set i ⟨x.es.set t (fileE q2 ds), x.a, x.c⟩, ca, n, cc, D, P, by omega, rfl, by go_num, W16, hide (S16.out.mono (by omega)), K16⟩
                          case measure => simp [intOf]; omega
                        | some tt =>
                          obtain ⟨D4, P4, n4⟩ := tt
                          simp only at hpost
                          obtain ⟨g4, cv4, rfl, hcv4, hR4, hG4⟩ := hpost
                          have hw15 := K15.out.size
                          have C4 := hide (show Wth w1.heap.size w16 (some ⟨g, 0, none⟩) N vc (rs.set i ⟨x.es.set t (fileE q2 ds), x.a, x.c⟩) (some ⟨g4, 0, none⟩) n4 cv4 D4 P4 from ⟨W16.out.lays, W16.out.len, W16.out.st, hG4.ga.mono hw15, by have := hR4.many; omega, fun i hi => ⟨HU8.out _ rfl i hi, by have := (hR4.len i hi).2; omega⟩⟩)
                          have HF2 := hide (HFT.out w16 hb16)
                          clear hb16 hR4 hG4
                          go_wp2_with fail
                          refine HF2.out.mono ?_
                          rintro r w17 ⟨rfl, hb17⟩
                          have S17 := hide (S16.out.below hb17)
                          have K17 := hide (K16.out.trans (Kept.of_below hb17))
                          have W17 := hide (C4.out.below hb17)
                          clear hb17
                          go_wp2_with fail
                          go_roundw
                          case rel => exact ⟨i + 1, rs.set i ⟨x.es.set t (fileE q2 ds), x.a, x.c⟩, some ⟨g4, 0, none⟩, n4, cv4, D4, P4, by omega, rfl, by go_num, W17, hide (S17.out.mono (by omega)), K17⟩
                          case measure => simp [intOf]; omega
                      · have HLW := hide (l2Bytes_weak ca cc n D P a3 c3 ds W15 STR.out.ch.rd (by have := STR.out.many; omega) (fun i hi => (STR.out.hP i hi).2) RD.out UD.out hcap (by omega))
                        generalize fault D P n = FF at *
                        have hff : (FF == 0) = false := by simpa using hf
                        clear hf
                        go_wp2_with fail
                        refine HLW.out.mono ?_
                        rintro r w16 ⟨⟨vv, bb, rfl⟩, hb16⟩
                        have S16 := hide (S14.out.below hb16)
                        have K16 := hide (K15.out.trans (Kept.of_below hb16))
                        have W16 := hide (STR.out.below hb16)
                        have HF2 := hide (HFT.out w16 hb16)
                        clear hb16
                        cases bb with
                        | false =>
                          go_wp2_with fail
                          go_roundw
                          case rel => exact ⟨i + 1, rs.set i ⟨x.es.set t (fileE q2 ds), x.a, x.c⟩, ca, n, cc, D, P, by omega, rfl, by go_num, W16, hide (S16.out.mono (by omega)), K16⟩
                          case measure => simp [intOf]; omega
                        | true =>
                          go_wp2_with fail
                          refine HF2.out.mono ?_
                          rintro r w17 ⟨rfl, hb17⟩
                          have S17 := hide (S16.out.below hb17)
                          have K17 := hide (K16.out.trans (Kept.of_below hb17))
                          have W17 := hide (W16.out.below hb17)
                          clear hb17
                          go_wp2_with fail
                          go_roundw
                          case rel => exact ⟨i + 1, rs.set i ⟨x.es.set t (fileE q2 ds), x.a, x.c⟩, ca, n, cc, D, P, by omega, rfl, by go_num, W17, hide (S17.out.mono (by omega)), K17⟩
                          case measure => simp [intOf]; omega
                    · have hkb2 : (e1.kind == 1) = false := by simpa using hk2
                      clear hk2
                      go_wp2_with fail
                      refine HAT.out.mono ?_
                      rintro r w11 ⟨rfl, hw11⟩
                      have hw12 := hw11.symm
                      clear hw11
                      subst hw12
                      go_wp2_with fail
                      go_roundw
                      case rel => exact ⟨i + 1, rs, ca, n, cc, D, P, by omega, rfl, by go_num, WW, hide (SS.out.mono (by omega)), KK⟩
                      case measure => simp [intOf]; omega
                · have hiN' : ¬ (i : Int) < (N : Int) := by omega
                  go_wp2_with fail
                  exact bodyPost_ret (v := .tuple #[.slice va N vc, .slice ca n cc, .string (str q2)]) (by simp [results, Tryz.results31, go_sem]) rfl (WthR.of WW.out h5 hq2l (BEL.out _ KK.out))
          · have hkb : (e.kind == 1) = false := by simpa using hk1
            clear hk1
            go_wp2_with fail
            go_roundw
            case rel => exact ⟨k + 1, q2, by omega, rfl, by go_num, rfl, hq2l, W9, N9, hide (S9.out.mono (by omega)), K9⟩
            case measure => simp [intOf]; omega
        · have hpos' : ¬ (0 : Int) < (NL : Int) := by omega
          go_wp2_with fail
          exact bodyPost_ret (v := .tuple #[.slice va N vc, .slice ca n cc, .string (str q)]) (by simp [results, Tryz.results31, go_sem]) rfl (WthR.of WW.out h5 hql (BEL.out _ KK.out))
      · have hk3' : ¬ (k : Int) < 3 := by omega
        go_wp2_with fail
        exact bodyPost_ret (v := .tuple #[.slice va N vc, .slice ca n cc, .string (str q)]) (by simp [results, Tryz.results31, go_sem]) rfl (WthR.of WW.out h5 hql (BEL.out _ KK.out))
end Go.Proofs.YtejipahfodhmjaaGreat

namespace Go.Proofs.YtejipahfodhmjaaGreat
open Go.RowKit Go.Maps
set_option linter.unusedVariables false
attribute [local go_sem ↓] Go.wp_at_zero Go.wp_at_succ

def Bx3z (w : World) (b : Nat) (u0 u1 u2 : Value) : Prop := w.cell? ⟨b, 0, none⟩ = some u0 ∧ w.cell? ⟨b, 1, none⟩ = some u1 ∧ w.cell? ⟨b, 2, none⟩ = some u2
theorem Bx3z.new (w : World) (u0 u1 u2 : Value) (t : TypeId) : Bx3z (w.alloc (.cells #[u0, u1, u2] t)) w.heap.size u0 u1 u2 := by
  refine ⟨?_, ?_, ?_⟩ <;> simp
theorem Bx3z.below {w w' : World} {b : Nat} {u0 u1 u2 : Value} (h : Bx3z w b u0 u1 u2) (hk : Below w.heap.size w w') : Bx3z w' b u0 u1 u2 := by
  obtain ⟨h0, h1, h2⟩ := h
  have hb : b < w.heap.size := World.block_lt_of_cell? w ⟨b, 0, none⟩ h0
  exact ⟨(hk.cell (p := ⟨b, 0, none⟩) hb).trans h0, (hk.cell (p := ⟨b, 1, none⟩) hb).trans h1, (hk.cell (p := ⟨b, 2, none⟩) hb).trans h2⟩
theorem Holds.yesB {w : World} {b N : Nat} {L : List Ch} {d : Int} {zs : List Int} {T : Nat} (h : Holds w b N L T) (hp : (d, zs) ∈ L) (hw : (Lit.int .i64 d).wf = true) (t : TypeId) (ht : Tryz.prog.underlying t = some (.map 2 108)) :
    ∃ a c, (∀ u : World, Below w.heap.size w u → (Instr.lookup t (.map (some b)) (.int .i64 d) true).run Tryz.prog u = .ok (.tuple #[.agg #[.int .i64 d, .slice a zs.length c], .bool true]) u) ∧ Reads .u8 w a zs ∧ ∀ x, a = some x → x.block < T := by
  obtain ⟨Dt, A, C, h1, h2, h3, h4, h5⟩ := h
  have hm : d ∈ L.map Prod.fst := List.mem_map_of_mem (f := Prod.fst) hp
  refine ⟨A d, C d, fun u hu => ?_, (h3 _ hp).2⟩
  have k1 := ownsMap_kept (S := fun _ => False) h1 (Kept.of_below hu) id
  obtain ⟨v, ps, hrun, hv⟩ := k1.look_ok law64 ht (zeroCh u) (zd := .held (.agg #[.int .i64 0, .slice none 0 0])) (zp := []) rfl (key64 hw)
  simp only [RV, Option.some.injEq, Prod.mk.injEq, (h3 _ hp).1] at hv
  have e := hv.1
  simp only [DataW.held.injEq] at e
  rw [hrun, h2 d]
  simp [hm, e, chv]
set_option maxRecDepth 100000 in
set_option maxHeartbeats 3200000 in
theorem part_yes (s : Int) (x : Option Addr) (c : Nat) (zs : List Int) (bm n j T : Nat) (D : Nat → Int) (P : Nat → List Int) (w : World) (h : Reads .i64 w x zs) (hH : Holds w bm n (lst D P n) T) (hj : j < zs.length) (hl : zs.length ≤ 3) (z : Int) (hzj : zs.getD j 0 = z) (hz : 0 ≤ z ∧ z ≤ 4294967295) (ys : List Int) (hi : ∃ i, i < n ∧ D i = z ∧ P i = ys) :
    Calls Tryz.prog 44 #[.agg #[.int .i64 s, .slice x zs.length c, .map (some bm)], .int .i64 j] w fun e w' => ∃ a' c', e = .returned (.tuple #[.slice a' ys.length c', .bool true]) ∧ Reads .u8 w' a' ys ∧ (∀ x, a' = some x → x.block < T) ∧ Below w.heap.size w w' := by
  obtain ⟨i, hi, hd, hy⟩ := hi
  obtain ⟨b1, o1, rfl, hb1, hc1⟩ := h (by intro e; simp [e] at hj)
  have hc := hc1 j hj
  rw [hzj] at hc
  have hwf := i64_wf hz.1 hz.2
  obtain ⟨a3, c3, hrun, hr3, hlow⟩ := hH.yesB (lst_mem.2 ⟨i, hi, by rw [hd, hy]⟩ : (z, ys) ∈ lst D P n) hwf 67 Tryz.underlying67
  have A0 := hide (below_alloc w (.cells #[.int .i64 s, .slice (some ⟨b1, o1, none⟩) zs.length c, .map (some bm)] 69))
  have X0 := hide (Bx3z.new w (.int .i64 s) (.slice (some ⟨b1, o1, none⟩) zs.length c) (.map (some bm)) 69)
  have HR3 := hide hr3
  have HLW := hide hlow
  have KB : Hid (∀ u : World, Below (w.alloc (.cells #[.int .i64 s, .slice (some ⟨b1, o1, none⟩) zs.length c, .map (some bm)] 69)).heap.size (w.alloc (.cells #[.int .i64 s, .slice (some ⟨b1, o1, none⟩) zs.length c, .map (some bm)] 69)) u → (u.cell? ⟨w.heap.size, 0, none⟩ = some (.int .i64 s) ∧ u.cell? ⟨w.heap.size, 1, none⟩ = some (.slice (some ⟨b1, o1, none⟩) zs.length c) ∧ u.cell? ⟨w.heap.size, 2, none⟩ = some (.map (some bm))) ∧ u.cell? ⟨b1, o1 + j, none⟩ = some (.int .i64 z) ∧ (Instr.lookup 67 (.map (some bm)) (.int .i64 z) true).run Tryz.prog u = .ok (.tuple #[.agg #[.int .i64 z, .slice a3 ys.length c3], .bool true]) u) := hide (fun u hu => by
    have hwu := below_next A0.out hu
    exact ⟨X0.out.below hu, (hwu.cell (p := ⟨b1, o1 + j, none⟩) hb1).trans hc, hrun u hwu⟩)
  have hj0 : (0 : Int) ≤ (j : Int) := by omega
  have hj1 : (j : Int) < (zs.length : Int) := by omega
  clear hc hc1 hrun hr3 hlow hH h hd hy hz hzj hwf
  go_enter Tryz.func44, Tryz.ntmps44
  go_wp2_with fail
  generalize w.alloc (.cells #[.int .i64 s, .slice (some ⟨b1, o1, none⟩) zs.length c, .map (some bm)] 69) = W1 at *
  obtain ⟨B, hB⟩ : ∃ B, B = w.heap.size := ⟨_, rfl⟩
  rw [← hB] at KB ⊢
  have hBl : B < W1.heap.size := World.block_lt_of_cell? W1 ⟨B, 0, none⟩ (KB.out W1 (Below.refl _ _)).1.1
  clear hB
  go_region_held3 (fun u => (u.cell? ⟨B, 0, none⟩ = some (.int .i64 s) ∧ u.cell? ⟨B, 1, none⟩ = some (.slice (some ⟨b1, o1, none⟩) zs.length c) ∧ u.cell? ⟨B, 2, none⟩ = some (.map (some bm))) ∧ u.cell? ⟨b1, o1 + j, none⟩ = some (.int .i64 z) ∧ (Instr.lookup 67 (.map (some bm)) (.int .i64 z) true).run Tryz.prog u = .ok (.tuple #[.agg #[.int .i64 z, .slice a3 ys.length c3], .bool true]) u) (first | exact KB.out _ (Below.refl _ _).drew | exact KB.out _ (below_next (Below.refl _ _).drew (below_alloc _ _)) | go_keep) (fail)
  all_goals
    go_wp2_with fail
    exact bodyPost_ret (v := .tuple #[.slice a3 ys.length c3, .bool true]) (by simp [results, Tryz.results44, go_sem]) rfl ⟨a3, c3, rfl, HR3.out.below (below_next A0.out (below_next (Below.refl _ _).drew (below_alloc _ _))), HLW.out, below_next A0.out (below_next (Below.refl _ _).drew (below_alloc _ _))⟩
set_option maxRecDepth 100000 in
set_option maxHeartbeats 3200000 in
theorem part_no (s : Int) (x : Option Addr) (c : Nat) (zs : List Int) (bm n j T : Nat) (D : Nat → Int) (P : Nat → List Int) (w : World) (h : Reads .i64 w x zs) (hH : Holds w bm n (lst D P n) T) (hj : j < zs.length) (hl : zs.length ≤ 3) (z : Int) (hzj : zs.getD j 0 = z) (hz : 0 ≤ z ∧ z ≤ 4294967295) (hi : ∀ i, i < n → D i ≠ z) :
    Calls Tryz.prog 44 #[.agg #[.int .i64 s, .slice x zs.length c, .map (some bm)], .int .i64 j] w fun e w' => e = .returned (.tuple #[.slice none 0 0, .bool false]) ∧ Below w.heap.size w w' := by
  obtain ⟨b1, o1, rfl, hb1, hc1⟩ := h (by intro e; simp [e] at hj)
  have hc := hc1 j hj
  rw [hzj] at hc
  have hwf := i64_wf hz.1 hz.2
  have hrun := fun (u : World) (hu : Below w.heap.size w u) => (hH.below hu).no (by intro hm; obtain ⟨i, hi2, e⟩ := lst_key.1 hm; exact hi i hi2 e) hwf 67 Tryz.underlying67
  have A0 := hide (below_alloc w (.cells #[.int .i64 s, .slice (some ⟨b1, o1, none⟩) zs.length c, .map (some bm)] 69))
  have X0 := hide (Bx3z.new w (.int .i64 s) (.slice (some ⟨b1, o1, none⟩) zs.length c) (.map (some bm)) 69)
  have KB : Hid (∀ u : World, Below (w.alloc (.cells #[.int .i64 s, .slice (some ⟨b1, o1, none⟩) zs.length c, .map (some bm)] 69)).heap.size (w.alloc (.cells #[.int .i64 s, .slice (some ⟨b1, o1, none⟩) zs.length c, .map (some bm)] 69)) u → (u.cell? ⟨w.heap.size, 0, none⟩ = some (.int .i64 s) ∧ u.cell? ⟨w.heap.size, 1, none⟩ = some (.slice (some ⟨b1, o1, none⟩) zs.length c) ∧ u.cell? ⟨w.heap.size, 2, none⟩ = some (.map (some bm))) ∧ u.cell? ⟨b1, o1 + j, none⟩ = some (.int .i64 z) ∧ (Instr.lookup 67 (.map (some bm)) (.int .i64 z) true).run Tryz.prog u = .ok (.tuple #[.agg #[.int .i64 0, .slice none 0 0], .bool false]) u) := hide (fun u hu => by
    have hwu := below_next A0.out hu
    exact ⟨X0.out.below hu, (hwu.cell (p := ⟨b1, o1 + j, none⟩) hb1).trans hc, hrun u hwu⟩)
  have hj0 : (0 : Int) ≤ (j : Int) := by omega
  have hj1 : (j : Int) < (zs.length : Int) := by omega
  clear hc hc1 hrun hH h hi hz hzj hwf
  go_enter Tryz.func44, Tryz.ntmps44
  go_wp2_with fail
  generalize w.alloc (.cells #[.int .i64 s, .slice (some ⟨b1, o1, none⟩) zs.length c, .map (some bm)] 69) = W1 at *
  obtain ⟨B, hB⟩ : ∃ B, B = w.heap.size := ⟨_, rfl⟩
  rw [← hB] at KB ⊢
  have hBl : B < W1.heap.size := World.block_lt_of_cell? W1 ⟨B, 0, none⟩ (KB.out W1 (Below.refl _ _)).1.1
  clear hB
  go_region_held3 (fun u => (u.cell? ⟨B, 0, none⟩ = some (.int .i64 s) ∧ u.cell? ⟨B, 1, none⟩ = some (.slice (some ⟨b1, o1, none⟩) zs.length c) ∧ u.cell? ⟨B, 2, none⟩ = some (.map (some bm))) ∧ u.cell? ⟨b1, o1 + j, none⟩ = some (.int .i64 z) ∧ (Instr.lookup 67 (.map (some bm)) (.int .i64 z) true).run Tryz.prog u = .ok (.tuple #[.agg #[.int .i64 0, .slice none 0 0], .bool false]) u) (first | exact KB.out _ (Below.refl _ _).drew | exact KB.out _ (below_next (Below.refl _ _).drew (below_alloc _ _)) | go_keep) (fail)
  all_goals
    go_wp2_with fail
    exact bodyPost_ret (v := .tuple #[.slice none 0 0, .bool false]) (by simp [results, Tryz.results44, go_sem]) rfl ⟨rfl, below_next A0.out (below_next (Below.refl _ _).drew (below_alloc _ _))⟩
end Go.Proofs.YtejipahfodhmjaaGreat

namespace Go.Proofs.YtejipahfodhmjaaGreat
open Go.RowKit Go.Maps
set_option linter.unusedVariables false
attribute [local go_sem ↓] Go.wp_at_zero Go.wp_at_succ

abbrev Pt := Option Addr × List Int × Nat
def ptV (p : Pt) : Value := .slice p.1 p.2.1.length p.2.2
structure PsW (B : Nat) (w : World) (v : Value) (ps : List Pt) : Prop where
  row : w.ownsRow B 22 1 v ps.length (ps.map ptV)
  rd : ∀ p ∈ ps, Reads .u8 w p.1 p.2.1
  low : ∀ p ∈ ps, ∀ x, p.1 = some x → x.block < B
theorem PsW.nil (B : Nat) (w : World) : PsW B w (.slice none 0 0) [] := ⟨World.ownsRow_nil _ _ _ _, by simp, by simp⟩
theorem PsW.below {B : Nat} {w w' : World} {v : Value} {ps : List Pt} (h : PsW B w v ps) (hk : Below w.heap.size w w') : PsW B w' v ps :=
  ⟨ownsRow_below h.row hk, fun p hp => (h.rd p hp).below hk, h.low⟩
theorem PsW.push {B : Nat} {w w' : World} {v v' : Value} {ps : List Pt} {p : Pt} (h : PsW B w v ps) (hp : Reads .u8 w p.1 p.2.1) (hl : ∀ x, p.1 = some x → x.block < B) (ho : w'.ownsRow B 22 1 v' (ps.length + 1) (ps.map ptV ++ [ptV p])) (hk : Kept (fun b => v.ownBlock = some b) w w') : PsW B w' v' (ps ++ [p]) := by
  have far : ∀ q : Pt, Reads .u8 w q.1 q.2.1 → (∀ x, q.1 = some x → x.block < B) → Reads .u8 w' q.1 q.2.1 := fun q hq hlq => hq.kept hk (fun _ x hx e => by
    have := (h.row.lt _ e).1
    have := hlq x hx
    omega)
  refine ⟨by simpa using ho, fun q hq => ?_, fun q hq => ?_⟩
  · rcases List.mem_append.1 hq with hq | hq
    · exact far q (h.rd q hq) (h.low q hq)
    · have : q = p := by simpa using hq
      subst this
      exact far q hp hl
  · rcases List.mem_append.1 hq with hq | hq
    · exact h.low q hq
    · have : q = p := by simpa using hq
      subst this
      exact hl
theorem infoBy : (Tryz.prog.info? 22).map (fun i => (i.zero, i.size, i.bytes)) = some (some (.slice none 0 0), 1, 24) := by kernel_rfl
set_option maxRecDepth 100000 in
set_option maxHeartbeats 3200000 in
theorem parts_any (s : Int) (x : Option Addr) (c : Nat) (zs : List Int) (bm n T : Nat) (D : Nat → Int) (P : Nat → List Int) (w : World) (h : Reads .i64 w x zs) (hH : Holds w bm n (lst D P n) T) (hT : T ≤ w.heap.size) (hl : zs.length ≤ 3) (hz : ∀ j, j < zs.length → 0 ≤ zs.getD j 0 ∧ zs.getD j 0 ≤ 4294967295)
    (m : Nat) (hm : m ≤ zs.length) (js : Nat → List Int) (hj : ∀ j, j < m → ∃ i, i < n ∧ D i = zs.getD j 0 ∧ P i = js j) (hno : m < zs.length → ∀ i, i < n → D i ≠ zs.getD m 0) :
    Calls Tryz.prog 33 #[.agg #[.int .i64 s, .slice x zs.length c, .map (some bm)]] w fun e w' => ((m = zs.length ∧ ∃ v ps B, e = .returned (.tuple #[v, .bool true]) ∧ PsW B w' v ps ∧ ps.map (fun p => p.2.1) = (List.range m).map js) ∨ (m < zs.length ∧ e = .returned (.tuple #[.slice none 0 0, .bool false]))) ∧ Below w.heap.size w w' := by
  obtain ⟨i1, ki, kz0, kz1, kz2⟩ := info_parts infoBy
  have A0 := hide (below_alloc w (.cells #[.int .i64 s, .slice x zs.length c, .map (some bm)] 69))
  have X0 := hide (Bx3z.new w (.int .i64 s) (.slice x zs.length c) (.map (some bm)) 69)
  have HR := hide h
  have HH := hide hH
  have HZ := hide hz
  have HJ := hide hj
  have HN := hide hno
  clear h hH hz hj hno
  obtain ⟨t0, t1, t2⟩ := X0.out
  go_enter Tryz.func33, Tryz.ntmps33
  go_wp2_with fail
  clear t0 t1 t2
  generalize w.alloc (.cells #[.int .i64 s, .slice x zs.length c, .map (some bm)] 69) = W1 at *
  obtain ⟨B, hB⟩ : ∃ B, B = w.heap.size := ⟨_, rfl⟩
  rw [← hB]
  rw [← hB] at X0
  have HBe := hide hB
  clear hB
  go_loopw [4, 5, 6, 7, 12] (fun v _ _ _ i wr => ∃ (j : Nat) (ps : List Pt), j ≤ m ∧ i = .int .i64 j ∧ ps.length = j ∧ Hid (PsW W1.heap.size wr v ps) ∧ Hid (ps.map (fun p => p.2.1) = (List.range j).map js) ∧ Hid (Below W1.heap.size W1 wr)) (fun _ _ _ _ i _ => zs.length - (intOf i).toNat)
  case atStart => exact ⟨0, [], Nat.zero_le _, rfl, rfl, hide (PsW.nil _ _), hide rfl, hide (Below.refl _ _)⟩
  case round =>
    obtain ⟨j, ps, hjm, rfl, hpl, HP, HM, HW⟩ := hrel
    obtain ⟨pv, pc, hv⟩ := ownsRow_shape HP.out.row
    rw [hpl] at hv
    subst hv
    have BW := hide (below_next A0.out HW.out)
    obtain ⟨t0, t1, t2⟩ := X0.out.below HW.out
    by_cases hlt : j < zs.length
    · have hlt' : (j : Int) < (zs.length : Int) := by omega
      obtain ⟨z, hzz⟩ : ∃ z, zs.getD j 0 = z := ⟨_, rfl⟩
      have hzr := HZ.out j hlt
      rw [hzz] at hzr
      by_cases hjlt : j < m
      · have HPY := hide (part_yes s x c zs bm n j T D P wr (HR.out.below BW.out) (HH.out.below BW.out) hlt hl z hzz hzr (js j) (by obtain ⟨i, h1, h2, h3⟩ := HJ.out j hjlt; exact ⟨i, h1, h2.trans hzz, h3⟩))
        have HRS := hide (show (List.range (j + 1)).map js = (List.range j).map js ++ [js j] from by rw [List.range_succ, List.map_append]; rfl)
        generalize js j = ys at *
        clear hzz hzr
        go_wp2_with fail
        refine HPY.out.mono ?_
        rintro e w2 ⟨a2, c2, rfl, hr2, hl2, hb2⟩
        have HP2 := hide (HP.out.below hb2)
        have HW2 := hide (below_next HW.out hb2)
        have BW2 := hide (below_next BW.out hb2)
        have R2 := hide hr2
        have L2 := hide hl2
        have hsz := HW2.out.size
        have hsA := A0.out.size
        have HPL := hide hpl
        have HO2 : Hid (w2.ownsRow W1.heap.size 22 1 (.slice pv j pc) j (ps.map ptV)) := by have := HP2.out.row; rw [hpl] at this; exact hide this
        have hm1 : j + 1 ≤ maxLen := by unfold maxLen; omega
        have hm2 : (j + 1) * 24 ≤ 140737488355328 := by omega
        clear hr2 hl2 hb2 hpl HPY t0 t1 t2
        go_wp2_with (at_builtin; refine wpList_append_one rfl (.tmp 23) (.tmp 25) 72 rfl W1.heap.size 22 i1 (.slice none 0 0) 1 24 Tryz.underlying72 ki kz0 kz1 kz2 rfl (by decide) _ _ _ rfl HO2.out rfl rfl (by intro u hu; simp at hu; subst hu; rfl) hm1 hm2 hsz ?_; intro v' w3 hown3 hkept; have O3 := hide hown3; have K3 := hide hkept; clear hown3 hkept)
        go_roundw
        case rel =>
          refine ⟨j + 1, ps ++ [(a2, ys, c2)], by omega, by go_num, by simp [HPL.out], hide ?_, hide ?_, hide ?_⟩
          · exact PsW.push (p := (a2, ys, c2)) HP2.out R2.out (fun x hx => by have := L2.out x hx; omega) (by rw [HPL.out]; simpa [ptV] using O3.out) K3.out
          · rw [List.map_append, HM.out, HRS.out]; rfl
          · exact Kept.below_own HW2.out hsz HO2.out K3.out
        case measure => simp [intOf]; omega
      · have hje : j = m := by omega
        subst hje
        have HPN := hide (part_no s x c zs bm n j T D P wr (HR.out.below BW.out) (HH.out.below BW.out) hlt hl z hzz hzr (by rw [← hzz]; exact HN.out hlt))
        clear hzz hzr
        go_wp2_with fail
        refine HPN.out.mono ?_
        rintro e w2 ⟨rfl, hb2⟩
        have BW2 := hide (below_next BW.out hb2)
        clear hb2
        go_wp2_with fail
        exact bodyPost_ret (v := .tuple #[.slice none 0 0, .bool false]) (by simp [results, Tryz.results33, go_sem]) rfl ⟨.inr ⟨hlt, rfl⟩, BW2.out⟩
    · have hje : j = m := by omega
      subst hje
      have hme : j = zs.length := by omega
      have hlt' : ¬ (j : Int) < (zs.length : Int) := by omega
      have HME := hide hme
      clear hme
      go_wp2_with fail
      exact bodyPost_ret (v := .tuple #[.slice pv j pc, .bool true]) (by simp [results, Tryz.results33, go_sem]) rfl ⟨⟨HME.out, _, rfl, ps, ⟨_, HP.out⟩, HM.out⟩, BW.out⟩
set_option maxRecDepth 100000 in
set_option maxHeartbeats 3200000 in
theorem joined_any (a : Option Addr) (c B : Nat) (ps : List Pt) (w : World) (h : PsW B w (.slice a ps.length c) ps) (hl : ps.length ≤ 3) (hp : ∀ p ∈ ps, 1 ≤ p.2.1.length ∧ p.2.1.length ≤ 8) :
    Calls Tryz.prog 34 #[.slice a ps.length c] w fun e w' => ∃ a' c', e = .returned (.slice a' (ps.map (fun p => p.2.1)).flatten.length c') ∧ w'.ownsRow w.heap.size 5 1 (.slice a' (ps.map (fun p => p.2.1)).flatten.length c') (ps.map (fun p => p.2.1)).flatten.length ((ps.map (fun p => p.2.1)).flatten.map (Value.int .u8)) ∧ Below w.heap.size w w' := by
  obtain ⟨i1, ki, kz0, kz1, kz2⟩ := info_parts Tryz.infoU8
  have HP := hide h
  have HL := hide hp
  clear h hp
  have HFL := hide (fun (j : Nat) (hj : j ≤ ps.length) => show (((ps.take j).map (fun p => p.2.1)).flatten).length ≤ 8 * j from by
    induction j with
    | zero => simp
    | succ j ih =>
      have := ih (by omega)
      have he : ps[j]? = some (ps[j]'(by omega)) := List.getElem?_eq_getElem (by omega)
      have h8 := (HL.out _ (List.mem_of_getElem? he)).2
      rw [List.take_add_one, he]
      simp only [Option.toList_some, List.map_append, List.map_cons, List.map_nil, List.flatten_append, List.flatten_cons, List.flatten_nil, List.append_nil, List.length_append]
      omega)
  go_enter Tryz.func34, Tryz.ntmps34
  go_wp2_with fail
  go_loopw [3, 5, 8] (fun v _ i wr => ∃ j : Nat, j ≤ ps.length ∧ i = .int .i64 j ∧ Hid (wr.ownsRow w.heap.size 5 1 v (((ps.take j).map (fun p => p.2.1)).flatten).length ((((ps.take j).map (fun p => p.2.1)).flatten).map (Value.int .u8))) ∧ Hid (Below w.heap.size w wr)) (fun _ _ i _ => ps.length - (intOf i).toNat)
  case atStart => exact ⟨0, Nat.zero_le _, rfl, hide (by simpa using World.ownsRow_nil _ _ _ _), hide (Below.refl _ _)⟩
  case round =>
    obtain ⟨j, hj, rfl, HO, HW⟩ := hrel
    obtain ⟨lv, lc, hv⟩ := ownsRow_shape HO.out
    subst hv
    by_cases hlt : j < ps.length
    · have he : ps[j]? = some (ps[j]'hlt) := List.getElem?_eq_getElem hlt
      generalize ps[j]'hlt = p at he
      have hpm := List.mem_of_getElem? he
      have hl8 := HL.out p hpm
      have hr := (HP.out.rd p hpm).below HW.out
      have hlow := HP.out.low p hpm
      have hfl := HFL.out j hj
      have HST := hide (show ((ps.take (j + 1)).map (fun p => p.2.1)).flatten = ((ps.take j).map (fun p => p.2.1)).flatten ++ p.2.1 from by rw [List.take_add_one, he]; simp)
      obtain ⟨bn, hpa, hcn⟩ : ∃ bn, a = some ⟨bn, 0, none⟩ ∧ wr.cell? ⟨bn, j, none⟩ = some (ptV p) := by
        have hrow := ownsRow_below HP.out.row HW.out
        rcases hrow.2 with ⟨h', h0⟩ | ⟨g, cap, cur, h', hb, hgb, hx⟩
        · omega
        · simp only [Value.slice.injEq] at h'
          obtain ⟨rfl, -, rfl⟩ := h'
          refine ⟨g, rfl, ?_⟩
          have := hrow.cellAt j (by omega)
          rw [this, List.getElem?_map, he]; rfl
      subst hpa
      unfold ptV at hcn
      obtain ⟨px, pbs, pcc⟩ := p
      simp only at hl8 hr hlow HST hcn
      obtain ⟨b2, o2, rfl, hb2, hc2⟩ := hr (by intro e; subst e; simp at hl8)
      generalize ((ps.take j).map (fun p => p.2.1)).flatten = ys at *
      have hsz := HW.out.size
      have HC2 := hide hc2
      have hm1 : ys.length + pbs.length ≤ maxLen := by unfold maxLen; omega
      have hm2 : (ys.length + pbs.length) * 1 ≤ 140737488355328 := by omega
      clear he hpm hc2 hlow hr
      go_wp2_with (at_builtin; refine wpList_append_ints rfl (.tmp 12) (.tmp 13) 22 rfl w.heap.size 5 i1 .u8 1 Tryz.underlying22 ki kz0 kz1 kz2 _ _ ys rfl HO.out b2 o2 _ pcc pbs rfl rfl HC2.out hm1 hm2 hsz ?_; intro v' w3 hown2 hkept; have O2 := hide hown2; have K2 := hide hkept; clear hown2 hkept)
      go_roundw
      case rel => exact ⟨j + 1, by omega, by go_num, by rw [HST.out, List.length_append]; exact O2, hide (Kept.below_own HW.out hsz HO.out K2.out)⟩
      case measure => simp [intOf]; omega
    · have hke : ps.take j = ps := List.take_of_length_le (by omega)
      rw [hke] at HO ⊢
      clear hke
      go_wp2_with fail
      go_ret
      exact ⟨_, _, rfl, HO.out, HW.out⟩
end Go.Proofs.YtejipahfodhmjaaGreat

namespace Go.Proofs.YtejipahfodhmjaaGreat
open Go.RowKit Go.Maps
set_option linter.unusedVariables false
set_option maxRecDepth 100000 in
set_option maxHeartbeats 1600000 in
theorem mapChunks_from (a : Option Addr) (c n : Nat) (D : Nat → Int) (P : Nat → List Int) (w0 w : World) (h : RdC w0 a D P n) (hb0 : Below w0.heap.size w0 w) (hR : RightC D P n) :
    Calls Tryz.prog 50 #[.slice a n c] w fun e w' => ∃ b, e = .returned (.map (some b)) ∧ w.heap.size ≤ b ∧ Holds w' b n (lst D P n) w0.heap.size ∧ Below w.heap.size w w' := by
  have HA := hide h
  have HR := hide hR
  have HB0 := hide hb0
  have hn := hR.many
  clear h hR hb0
  have hmm : ∀ u : World, (Instr.makeMap 67 (some (.int .i64 (n : Int)))).run Tryz.prog u = .ok (.map (some u.heap.size)) (u.alloc (.map #[] 0)) := fun u => by simp [Instr.makeMap, asInt, asIntOf, Result.andThen]
  go_enter Tryz.func50, Tryz.ntmps50
  go_wp2
  go_loopw [5, 11] (fun _ i wr => ∃ k : Nat, k ≤ n ∧ i = .int .i64 k ∧ Holds wr w.heap.size k (lst D P k) w0.heap.size ∧ Below w.heap.size w wr) (fun _ i _ => n - (intOf i).toNat)
  case atStart => exact ⟨0, Nat.zero_le _, rfl, Holds.made w _, below_alloc _ _⟩
  case round =>
    obtain ⟨k, hk, rfl, hH, hbel⟩ := hrel
    have HH := hide hH
    have HW := hide hbel
    have HWW := hide (below_next HB0.out hbel)
    clear hH hbel
    by_cases hlt : k < n
    · obtain ⟨b1, o1, A1, C1, rfl, hb1, hc1⟩ := HA.out (by omega)
      obtain ⟨c1, e1, r1⟩ := hc1 k hlt
      have c1 := (HWW.out.cell (p := ⟨b1, o1 + k * 2, none⟩) hb1).trans c1
      have e1 := (HWW.out.cell (p := ⟨b1, o1 + k * 2 + 1, none⟩) hb1).trans e1
      have hpos := (HR.out.u8len hlt).1
      have hT := r1.lt (by intro e; simp [e] at hpos)
      have r1 := r1.below HWW.out
      have hnew := HR.out.new hlt
      have hwf := HR.out.wf hlt
      have HS := hide (lst_succ D P k)
      generalize A1 k = a1 at e1 r1 hT
      generalize C1 k = d1 at e1
      generalize P k = xs at *
      generalize D k = dd at *
      generalize lst D P k = L at *
      obtain ⟨Dt, hown, hput⟩ := (HH.out.below (below_alloc wr (.cells #[.int .i64 dd, .slice a1 xs.length d1] 108))).put (c := d1) hnew (r1.below (below_alloc _ _)) hT
      have HO := hide hown
      have HPt := hide hput
      have HK := hide (key64 hwf)
      clear hc1 r1 hown hput hnew hwf hT hpos
      go_wp2_with (first | (at_mapUpdate; refine wpList_mapUpdate_own _ rfl _ _ _ 67 rfl 2 108 law64 Tryz.underlying67 RV w.heap.size k Dt rfl HO.out (by unfold maxLen; omega) _ _ _ rfl rfl HK.out (.held (chv dd a1 xs.length d1)) [] rfl ?_; intro w1 hown1 hgrow1; have HH1 := hide (HPt.out w1 hown1 hgrow1); have HG1 := hide hgrow1; clear hown1 hgrow1) | go_in)
      go_roundw
      case rel => exact ⟨k + 1, by omega, by go_num, by rw [HS.out]; exact HH1.out, (below_next HW.out (below_alloc _ _)).trans ((Kept.of_grown HG1.out).below (Nat.le_trans HW.out.size (by simp)) (fun j hj e => by omega))⟩
      case measure => simp [intOf]; omega
    · have hke : k = n := by omega
      subst hke
      go_wp2
      go_ret
      exact ⟨_, rfl, Nat.le_refl _, HH.out, HW.out⟩
end Go.Proofs.YtejipahfodhmjaaGreat

