/-
  Texts put together: LazQ LazF EntY EntT MntI.
-/
import Derived.Test.YtejipahfodhmjaaGreatKIsWhol11
import Derived.Test.YtejipahfodhmjaaGreatKIsWhol10
import Derived.Test.YtejipahfodhmjaaGreatKIsWhol7
import Derived.Test.YtejipahfodhmjaaGreatKIsWhol1
import Derived.Test.YtejipahfodhmjaaGreatKIsWhol5
import Derived.Test.YtejipahfodhmjaaGreatKIsWhol4
import Derived.Deep.RegionLaw
import Derived.Deep.RegionWith
import Derived.Test.YtejipahfodhmjaaGreatKIsWhol6
import Derived.Maps.AppendAt
import Derived.Laws.CopyRow
import Derived.ProofKit
import Derived.Deep.DrawnRows
import Derived.Shelf.SlSortCmp.WholeK
import Derived.Ground.SlsfProg
import Derived.Test.YtejipahfodhmjaaGreatProg
import Derived.Test.YtejipahfodhmjaaGreatKIsWhol8
namespace Go.Proofs.YtejipahfodhmjaaGreat
open Go.RowKit Go.Maps
set_option linter.unusedVariables false
attribute [local go_sem ↓] Go.wp_at_zero Go.wp_at_succ

set_option maxRecDepth 100000 in
set_option maxHeartbeats 6400000 in
theorem specPathsOver_any (a : Option Addr) (c n : Nat) (ls : List (List En)) (w : World) (h : RdL w a ls) (hn : n = ls.length) (hl : ls.length ≤ 1048576) (hs : SmallL ls) (hg : ∀ es ∈ ls, layFault es = layFaultP es) :
    Calls Tryz.prog 23 #[.slice a n c] w (ResN (layersP ls) (pthL ls) w) := by
  subst hn
  have X0 := hide (Box.new w (.int .i64 0) (.slice none 0 0) 52)
  have B0 := hide (below_alloc w (.cells #[.int .i64 0, .slice none 0 0] 52))
  have HLF := hide (specLayersFault_any a c ls.length ls _ (h.below B0.out) rfl hl hs hg)
  have HR := hide h
  clear h hs hg
  by_cases hz : layersP ls = 0
  · obtain ⟨h4, hRs⟩ := layersP_zero.1 hz
    rw [hz] at HLF ⊢
    have HRi := hide hRs
    have HPT := hide (show pthL ls = (allE ls).map En.path from by rw [pthL, if_pos hz])
    clear hz hRs
    go_enter Tryz.func23, Tryz.ntmps23
    go_wp2_with fail
    refine HLF.out.mono ?_
    rintro r w1 ⟨rfl, hb1⟩
    have B1 := hide (below_next B0.out hb1)
    have X1 := hide (X0.out.below hb1)
    have BB := hide (below_next B1.out (below_alloc w1 (.cells #[.int .i64 0, .slice none 0 0] 52)))
    have XO := hide (Box.new w1 (.int .i64 0) (.slice none 0 0) 52)
    have X2 := hide (X1.out.below (below_alloc w1 (.cells #[.int .i64 0, .slice none 0 0] 52)))
    have hlt1 : w.heap.size < w1.heap.size := X1.out.1.lt
    have hsz2 : (w1.alloc (.cells #[.int .i64 0, .slice none 0 0] 52)).heap.size = w1.heap.size + 1 := by simp
    clear hb1 X0 B0 HLF B1 X1
    obtain ⟨⟨t0, t1⟩, t2, t3⟩ := XO.out
    go_wp2_with fail
    clear t0 t1 t2 t3
    generalize w1.alloc (.cells #[.int .i64 0, .slice none 0 0] 52) = W2 at *
    generalize w1.heap.size = bO at *
    go_loopw [5] (fun i wr => ∃ (k m : Nat) (av : Option Addr) (cv : Nat) (ns : List Bs), k ≤ ls.length ∧ i = .int .i64 k ∧ ns.length ≤ m ∧ m ≤ 12 * k ∧ Hid (Box wr bO (.int .i64 0) (.slice av ns.length cv)) ∧ Hid (OwnS (bO + 1) wr (.slice av ns.length cv) ns) ∧ Hid (NmS ls k 0 ns) ∧ Hid (Below w.heap.size w wr) ∧ Hid (Box wr w.heap.size (.int .i64 0) (.slice none 0 0)) ∧ bO < wr.heap.size) (fun i _ => ls.length - (intOf i).toNat)
    case atStart => exact ⟨0, 0, none, 0, [], Nat.zero_le _, rfl, Nat.zero_le _, Nat.zero_le _, XO, hide (OwnS.nil _ _), hide (NmS.start ls), BB, X2, by omega⟩
    case round =>
      obtain ⟨k, m, av, cv, ns, hk, rfl, hnm, hm, HX, HO, HN, HW, HZ, hbw⟩ := hrel
      by_cases hlt : k < ls.length
      · obtain ⟨b, off, es, x, cc, rfl, hb, he, c0, hr⟩ := HR.out.at hlt
        have hRi := HRi.out es (List.mem_of_getElem? he)
        have hel := hRi.len
        have HRE := hide hr
        have HLk := hide he
        have HRI := hide hRi
        have HSM := hide (right_small hRi)
        have KC : Hid (∀ w', Below w.heap.size w w' → w'.cell? ⟨b, off + k, none⟩ = some (.slice x es.length cc)) := hide (fun w' hb' => (hb'.cell (p := ⟨b, off + k, none⟩) hb).trans c0)
        have hk0 : (0 : Int) ≤ (k : Int) := by omega
        have hk1 : (k : Int) < (ls.length : Int) := by omega
        clear hr hRi he c0
        go_wp2_with fail
        go_loopw [6] (fun i wx => ∃ (j m : Nat) (av : Option Addr) (cv : Nat) (ns : List Bs), j ≤ es.length ∧ i = .int .i64 j ∧ ns.length ≤ m ∧ m ≤ 12 * k + j ∧ Hid (Box wx bO (.int .i64 0) (.slice av ns.length cv)) ∧ Hid (OwnS (bO + 1) wx (.slice av ns.length cv) ns) ∧ Hid (NmS ls k j ns) ∧ Hid (Below w.heap.size w wx) ∧ Hid (Box wx w.heap.size (.int .i64 0) (.slice none 0 0)) ∧ bO < wx.heap.size) (fun i _ => es.length - (intOf i).toNat)
        case atStart => exact ⟨0, m, av, cv, ns, Nat.zero_le _, rfl, hnm, by omega, HX, HO, HN, HW, HZ, hbw⟩
        case round =>
          clear HX HO HN HW HZ hbw hnm hm
          obtain ⟨j, m, av, cv, ns, hj, rfl, hnm, hm, HX, HO, HN, HW, HZ, hbw⟩ := hrel
          have c0 := KC.out _ HW.out
          by_cases hlt2 : j < es.length
          · obtain ⟨bb, off2, e, y, yc, hxe, hbb, he, z0, z1, z2, z3, hrc⟩ := HRE.out.at hlt2
            subst hxe
            have hpf := entFault_zero (HRI.out.ent e (List.mem_of_getElem? he))
            have hsm := HSM.out e (List.mem_of_getElem? he)
            have KE : Hid (∀ w', Below w.heap.size w w' → w'.cell? ⟨bb, off2 + j * 4, none⟩ = some (.string (str e.path))) := hide (fun w' hb' => (hb'.cell (p := ⟨bb, off2 + j * 4, none⟩) hbb).trans z0)
            have e0 := KE.out _ HW.out
            have HPL := hide (l8Place_any (some ⟨b, off, none⟩) c ls.length ls e.path wr (HR.out.below HW.out) rfl h4 HRi.out hpf hsm.1)
            have hj0 : (0 : Int) ≤ (j : Int) := by omega
            have hj1 : (j : Int) < (es.length : Int) := by omega
            have HPF := hide hpf
            have HEj := hide he
            clear he hrc z0 z1 z2 z3 hpf
            obtain ⟨LN, hLN⟩ : ∃ LN, LN = ns.length := ⟨_, rfl⟩
            rw [← hLN] at HX HO hnm
            have HLN := hide hLN
            clear hLN
            cases hsn : seenL ls e.path with
            | none =>
              rw [hsn, show placeI none = -1 from rfl] at HPL
              have HN2 := hide (HN.out.skip HLk.out HEj.out (.inl hsn))
              clear hsn
              go_wp2_with fail
              refine HPL.out.mono ?_
              rintro r w3 ⟨rfl, hb3⟩
              have HX3 := hide (HX.out.below hb3)
              have HO3 := hide (HO.out.below hb3)
              have HW3 := hide (below_next HW.out hb3)
              have HZ3 := hide (HZ.out.below hb3)
              have hb3s := hb3.size
              clear hb3 HX HO HW HZ HPL c0 e0
              go_wp2_with fail
              go_roundw
              case rel =>
                have e9 := HLN.out
                subst e9
                exact ⟨j + 1, m, av, cv, ns, by omega, by go_num, hnm, by omega, HX3, HO3, HN2, HW3, HZ3, by omega⟩
              case measure => simp [intOf]; omega
            | some q =>
              rw [hsn, show placeI (some q) = (q : Int) from rfl] at HPL
              have HSN := hide hsn
              clear hsn
              have hq0 : (0 : Int) ≤ (q : Int) := by omega
              go_wp2_with fail
              refine HPL.out.mono ?_
              rintro r w3 ⟨rfl, hb3⟩
              have HX3 := hide (HX.out.below hb3)
              have HO3 := hide (HO.out.below hb3)
              have HW3 := hide (below_next HW.out hb3)
              have HZ3 := hide (HZ.out.below hb3)
              have hb3s := hb3.size
              clear hb3 HX HO HW HZ HPL c0 e0
              have HIN := hide (l8In_any av cv LN ns e.path w3 HO3.out.reads HLN.out (by rw [← HLN.out]; omega))
              obtain ⟨⟨t0, t1⟩, t2, t3⟩ := HX3.out
              by_cases hmm : e.path ∈ ns
              · rw [decide_eq_true hmm] at HIN
                have HN2 := hide (HN.out.skip HLk.out HEj.out (.inr hmm))
                clear hmm
                go_wp2_with fail
                refine HIN.out.mono ?_
                rintro r w4 ⟨rfl, hw4⟩
                have hw5 := hw4.symm
                clear hw4
                subst hw5
                go_wp2_with fail
                go_roundw
                case rel =>
                  have e9 := HLN.out
                  subst e9
                  exact ⟨j + 1, m, av, cv, ns, by omega, by go_num, hnm, by omega, HX3, HO3, HN2, HW3, HZ3, by omega⟩
                case measure => simp [intOf]; omega
              · rw [decide_eq_false hmm] at HIN
                have HPN := hide (HN.out.put HLk.out HEj.out HSN.out hmm HPF.out hsm.1)
                clear hmm
                have HPU := hide (l8Put_any av cv LN ns e.path w3 HO3.out HLN.out (by rw [← HLN.out]; omega))
                go_wp2_with fail
                refine HIN.out.mono ?_
                rintro r w4 ⟨rfl, hw4⟩
                have hw5 := hw4.symm
                clear hw4
                subst hw5
                go_wp2_with fail
                refine HPU.out.mono ?_
                rintro r w6 ⟨av6, cv6, rfl, hO6, hb6⟩
                have HX6 := hide (HX3.out.below hb6)
                have HW6 := hide (below_next HW3.out hb6)
                have HZ6 := hide (HZ3.out.below hb6)
                have O6 := hide hO6
                have HL6 := hide (putS_len ns e.path)
                have hb6s := hb6.size
                clear hO6 hb6 t0 t1 t2 t3
                obtain ⟨⟨t0, t1⟩, t2, t3⟩ := HX6.out
                generalize putS ns e.path = ns6 at *
                clear HPU HIN
                go_wp2_with fail
                go_roundw
                case rel =>
                  have e9 := HLN.out
                  have e8 := HL6.out
                  refine ⟨j + 1, m + 1, av6, cv6, ns6, by omega, by go_num, by omega, by omega, hide ?_, hide ?_, HPN, hide ?_, hide ?_, by simp [World.setCell]; omega⟩
                  · exact box_set1 HX6.out _
                  · exact (O6.out.mono (by omega)).kept (Kept.setCell (S := fun b => b = bO) (p := ⟨bO, 1, none⟩) (Kept.refl _ w6) (fun _ => rfl) _) (fun g hg hS => by have := (O6.out.lt g hg).1; omega)
                  · exact HW6.out.setCell (p := ⟨bO, 1, none⟩) (by show w.heap.size ≤ bO; omega) _
                  · exact HZ6.out.kept (Kept.setCell (S := fun b => b = bO) (p := ⟨bO, 1, none⟩) (Kept.refl _ w6) (fun _ => rfl) _) (by omega)
                case measure => simp [intOf]; omega
          · go_wp2_with fail
            go_roundw
            case rel =>
              have hje : j = es.length := by omega
              subst hje
              exact ⟨k + 1, m, av, cv, ns, by omega, by go_num, hnm, by omega, HX, HO, hide (HN.out.next HLk.out), HW, HZ, hbw⟩
            case measure => simp [intOf]; omega
      · obtain ⟨⟨t0, t1⟩, t2, t3⟩ := HX.out
        obtain ⟨⟨r0, r1⟩, r2, r3⟩ := HZ.out
        have hne : bO ≠ w.heap.size := by omega
        have hke : k = ls.length := by omega
        have HNE := hide (show ns = pthL ls from by rw [HPT.out]; exact NmS.all (by rw [← hke]; exact HN.out) HRi.out h4)
        have hown := HO.out
        have HOL := hide (fun g hg => (hown.lt g hg).1)
        clear hown hke
        go_wp2_with fail
        refine bodyPost_ret (v := .agg #[.int .i64 0, .slice av ns.length cv]) (by simp [results, Tryz.results23, go_sem, r0, r1]) rfl ?_
        rw [← HNE.out]
        refine ⟨av, cv, rfl, ?_, ?_⟩
        · exact (HO.out.kept (Kept.two wr w.heap.size 0 1 _ _) (fun g hg hS => by have := HOL.out g hg; omega)).mono (by omega)
        · exact (HW.out.setCell (p := ⟨w.heap.size, 0, none⟩) (Nat.le_refl _) _).setCell (p := ⟨w.heap.size, 1, none⟩) (Nat.le_refl _) _
  · have HCC := hide (show pthL ls = [] from by rw [pthL, if_neg hz])
    generalize layersP ls = F at *
    have hz2 : (F != 0) = true := by simp; exact hz
    clear hz
    go_enter Tryz.func23, Tryz.ntmps23
    go_wp2_with fail
    refine HLF.out.mono ?_
    rintro r w1 ⟨rfl, hb1⟩
    have B1 := hide (below_next B0.out hb1)
    obtain ⟨⟨t0, t1⟩, t2, t3⟩ := X0.out.below hb1
    clear hb1
    go_wp2_with fail
    exact bodyPost_ret (v := .agg #[.int .i64 F, .slice none 0 0]) (by simp [results, Tryz.results23, go_sem, t0, t1]) rfl (by rw [HCC.out]; exact ResN.bad (Nat.le_refl _) B1.out)
end Go.Proofs.YtejipahfodhmjaaGreat

namespace Go.Proofs.YtejipahfodhmjaaGreat
open Go.RowKit Go.Maps
set_option linter.unusedVariables false
attribute [local go_sem ↓] Go.wp_at_zero Go.wp_at_succ

theorem not_right_next {ls : List (List En)} {k : Nat} {es : List En} (he : ls[k]? = some es) (h : ¬ ∀ fs ∈ ls.drop k, Right fs) (hR : Right es) : ¬ ∀ fs ∈ ls.drop (k + 1), Right fs := by
  intro h2
  obtain ⟨hk, hx⟩ := List.getElem?_eq_some_iff.1 he
  refine h fun fs hf => ?_
  rw [List.drop_eq_getElem_cons hk, hx] at hf
  rcases List.mem_cons.1 hf with rfl | hf
  · exact hR
  · exact h2 fs hf
set_option maxRecDepth 100000 in
set_option maxHeartbeats 3200000 in
theorem specLayersFault_ne (a : Option Addr) (c n : Nat) (ls : List (List En)) (w : World) (h : RdL w a ls) (hn : n = ls.length) (hl : ls.length ≤ 1048576) (hs : SmallL ls) (hz : layersP ls ≠ 0) :
    Calls Tryz.prog 62 #[.slice a n c] w fun r w' => (∃ q : Int, r = .returned (.int .i64 q) ∧ q ≠ 0) ∧ Below w.heap.size w w' := by
  subst hn
  have HR := hide h
  have HS := hide hs
  clear h hs
  by_cases h4 : 4 < ls.length
  · have h4' : (4 : Int) < (ls.length : Int) := by omega
    clear hz
    go_enter Tryz.func62, Tryz.ntmps62
    go_wp2_with fail
    go_wp2_with fail
    go_ret
    exact ⟨⟨2, rfl, by decide⟩, Below.refl _ _⟩
  · have HZ := hide (show ¬ ∀ fs ∈ ls.drop 0, Right fs from fun h => hz (layersP_zero.2 ⟨by omega, by simpa using h⟩))
    have h4' : ¬ (4 : Int) < (ls.length : Int) := by omega
    clear h4 hz
    go_enter Tryz.func62, Tryz.ntmps62
    go_wp2_with fail
    go_loopw [3] (fun i wr => ∃ k : Nat, k ≤ ls.length ∧ i = .int .i64 k ∧ Hid (¬ ∀ fs ∈ ls.drop k, Right fs) ∧ Hid (Below w.heap.size w wr)) (fun i _ => ls.length - (intOf i).toNat)
    case atStart => exact ⟨0, Nat.zero_le _, rfl, HZ, hide (Below.refl _ _)⟩
    case round =>
      obtain ⟨k, hk, rfl, HV, HW⟩ := hrel
      by_cases hlt : k < ls.length
      · obtain ⟨b, off, es, x, cc, rfl, hb, he, c0, hr⟩ := (HR.out.below HW.out).at hlt
        obtain ⟨hel, hsm⟩ := HS.out es (List.mem_of_getElem? he)
        have HLF := hide (l4Fault_any x cc es.length es wr hr rfl (by omega) hsm)
        have HX := hide he
        clear he hr hsm
        by_cases hf : layFault es = 0
        · have HN := hide (not_right_next HX.out HV.out (right_E.1 hf))
          rw [hf] at HLF
          clear hf
          go_wp2_with fail
          refine HLF.out.mono ?_
          rintro r w1 ⟨rfl, hb1⟩
          have B1 := hide (below_next HW.out hb1)
          clear hb1 c0
          go_wp2_with fail
          go_roundw
          case rel => exact ⟨k + 1, by omega, by go_num, HN, B1⟩
          case measure => simp [intOf]; omega
        · generalize layFault es = F at *
          have hf2 : (F != 0) = true := by simp; exact hf
          have HF := hide hf
          clear hf
          go_wp2_with fail
          refine HLF.out.mono ?_
          rintro r w1 ⟨rfl, hb1⟩
          have B1 := hide (below_next HW.out hb1)
          clear hb1 c0
          go_wp2_with fail
          go_ret
          exact ⟨⟨F, rfl, HF.out⟩, B1.out⟩
      · exact absurd (fun fs hf => by rw [List.drop_eq_nil_of_le (by omega)] at hf; cases hf) HV.out
end Go.Proofs.YtejipahfodhmjaaGreat

namespace Go.Proofs.YtejipahfodhmjaaGreat
open Go.RowKit Go.Maps
set_option linter.unusedVariables false

set_option maxRecDepth 100000 in
set_option maxHeartbeats 1600000 in
theorem eqEntryS_same (a b : Option Addr) (ca cb n : Nat) (es : List En) (w : World) (ha : RdE w a es) (hb : RdE w b es) (hn : n = es.length) (hl : es.length ≤ 1048576) (hs : ∀ e ∈ es, e.chunks.length ≤ 1048576) :
    Calls Tryz.prog 70 #[.slice a n ca, .slice b n cb] w fun e w' => e = .returned (.bool true) ∧ Below w.heap.size w w' := by
  subst hn
  have hne : ((es.length : Int) != (es.length : Int)) = false := by simp
  have HA := hide ha
  have HB := hide hb
  have HS := hide hs
  clear ha hb hs
  go_enter Tryz.func70, Tryz.ntmps70
  go_wp2_with fail
  go_loopw [5] (fun i wr => ∃ k : Nat, k ≤ es.length ∧ i = .int .i64 k ∧ Hid (Below w.heap.size w wr)) (fun i _ => es.length - (intOf i).toNat)
  case atStart => exact ⟨0, Nat.zero_le _, rfl, hide (Below.refl _ _)⟩
  case round =>
    obtain ⟨k, hk, rfl, HW⟩ := hrel
    by_cases hlt : k < es.length
    · obtain ⟨b1, o1, e, x1, c1, rfl, hb1, he, p0, p1, p2, p3, r1⟩ := (HA.out.below HW.out).at hlt
      obtain ⟨b2, o2, e', x2, c2, rfl, hb2, he', q0, q1, q2, q3, r2⟩ := (HB.out.below HW.out).at hlt
      have : e' = e := Option.some.inj (he'.symm.trans he)
      subst this
      have hcl := HS.out e' (List.mem_of_getElem? he)
      have R1 := hide r1
      have R2 := hide r2
      clear he he' r1 r2
      have KC : Hid (∀ w' : World, Below wr.heap.size wr w' → (w'.cell? ⟨b1, o1 + k * 4, none⟩ = some (.string (str e'.path)) ∧ w'.cell? ⟨b1, o1 + k * 4 + 1, none⟩ = some (.int .i64 e'.kind) ∧ w'.cell? ⟨b1, o1 + k * 4 + 2, none⟩ = some (.int .i64 e'.size) ∧ w'.cell? ⟨b1, o1 + k * 4 + 3, none⟩ = some (.slice x1 e'.chunks.length c1)) ∧ w'.cell? ⟨b2, o2 + k * 4, none⟩ = some (.string (str e'.path)) ∧ w'.cell? ⟨b2, o2 + k * 4 + 1, none⟩ = some (.int .i64 e'.kind) ∧ w'.cell? ⟨b2, o2 + k * 4 + 2, none⟩ = some (.int .i64 e'.size) ∧ w'.cell? ⟨b2, o2 + k * 4 + 3, none⟩ = some (.slice x2 e'.chunks.length c2)) := hide (fun w' hb => ⟨⟨(hb.cell (p := ⟨b1, o1 + k * 4, none⟩) hb1).trans p0, (hb.cell (p := ⟨b1, o1 + k * 4 + 1, none⟩) hb1).trans p1, (hb.cell (p := ⟨b1, o1 + k * 4 + 2, none⟩) hb1).trans p2, (hb.cell (p := ⟨b1, o1 + k * 4 + 3, none⟩) hb1).trans p3⟩, (hb.cell (p := ⟨b2, o2 + k * 4, none⟩) hb2).trans q0, (hb.cell (p := ⟨b2, o2 + k * 4 + 1, none⟩) hb2).trans q1, (hb.cell (p := ⟨b2, o2 + k * 4 + 2, none⟩) hb2).trans q2, (hb.cell (p := ⟨b2, o2 + k * 4 + 3, none⟩) hb2).trans q3⟩)
      go_wp2_with fail
      go_region_held3 (fun w' => (w'.cell? ⟨b1, o1 + k * 4, none⟩ = some (.string (str e'.path)) ∧ w'.cell? ⟨b1, o1 + k * 4 + 1, none⟩ = some (.int .i64 e'.kind) ∧ w'.cell? ⟨b1, o1 + k * 4 + 2, none⟩ = some (.int .i64 e'.size) ∧ w'.cell? ⟨b1, o1 + k * 4 + 3, none⟩ = some (.slice x1 e'.chunks.length c1)) ∧ w'.cell? ⟨b2, o2 + k * 4, none⟩ = some (.string (str e'.path)) ∧ w'.cell? ⟨b2, o2 + k * 4 + 1, none⟩ = some (.int .i64 e'.kind) ∧ w'.cell? ⟨b2, o2 + k * 4 + 2, none⟩ = some (.int .i64 e'.size) ∧ w'.cell? ⟨b2, o2 + k * 4 + 3, none⟩ = some (.slice x2 e'.chunks.length c2)) (first | exact KC.out _ BB8.out | go_keep)
        ((first
          | (go_at_call 112; refine (eqEntry_same _ _ _ _ _ _ _ e'.chunks _ (R1.out.below (Below.refl _ _).drew) (R2.out.below (Below.refl _ _).drew) hcl).mono ?_; rintro r w8 ⟨rfl, b8⟩; have BB8 := hide ((Below.refl wr.heap.size wr).drew.trans b8); clear b8)))
      clear p0 p1 p2 p3 q0 q1 q2 q3
      go_wp2_with fail
      go_roundw
      case rel => exact ⟨k + 1, by omega, by go_num, hide (below_next HW.out BB8.out)⟩
      case measure => simp [intOf]; omega
    · go_wp2_with fail
      go_ret
      exact ⟨rfl, HW.out⟩


theorem rowR_set3 : ∀ (rs : List Rw) (j : Nat) (r : Rw) (e' : En), rs[j]? = some r → e'.chunks.length = r.e.chunks.length →
    (((rowR rs).set (j * 4) (.string (str e'.path))).set (j * 4 + 1) (.int .i64 e'.kind)).set (j * 4 + 2) (.int .i64 e'.size) = rowR (rs.set j ⟨e', r.a, r.c⟩)
  | [], j, r, e', h, _ => by simp at h
  | x :: rs, 0, r, e', h, hl => by
    simp only [List.getElem?_cons_zero, Option.some.injEq] at h
    subst h
    simp [rowR, cellsR, hl]
  | x :: rs, j + 1, r, e', h, hl => by
    have ih := rowR_set3 rs j r e' (by simpa using h) hl
    have e1 : rowR (x :: rs) = cellsR x ++ rowR rs := rfl
    have e2 : rowR ((x :: rs).set (j + 1) ⟨e', r.a, r.c⟩) = cellsR x ++ rowR (rs.set j ⟨e', r.a, r.c⟩) := rfl
    have hx : (cellsR x).length = 4 := rfl
    rw [e1, e2, ← ih, List.set_append_right _ _ (by omega), List.set_append_right _ _ (by omega), List.set_append_right _ _ (by omega), hx]
    rw [show (j + 1) * 4 - 4 = j * 4 by omega, show (j + 1) * 4 + 1 - 4 = j * 4 + 1 by omega, show (j + 1) * 4 + 2 - 4 = j * 4 + 2 by omega]

theorem GE.open {B T : Nat} {w : World} {a : Option Addr} {n c : Nat} {es : List En} {j : Nat} {e : En} (h : GE B T w (.slice a n c) es) (he : es[j]? = some e) :
    ∃ (G : Nat) (x : Option Addr) (y : Nat), a = some ⟨G, 0, none⟩ ∧ B ≤ G ∧ G < T ∧ w.cell? ⟨G, j * 4, none⟩ = some (.string (str e.path)) ∧ w.cell? ⟨G, j * 4 + 1, none⟩ = some (.int .i64 e.kind) ∧ w.cell? ⟨G, j * 4 + 2, none⟩ = some (.int .i64 e.size) ∧ w.cell? ⟨G, j * 4 + 3, none⟩ = some (.slice x e.chunks.length y) ∧
      (∀ i, w.frozen? ⟨G, i, none⟩ = false) ∧ Own .i64 w x e.chunks ∧ (∀ b, blkOf x b → B ≤ b ∧ b < T ∧ b ≠ G) ∧
      ∀ (e' : En) (w2 : World), e'.chunks.length = e.chunks.length → Own .i64 w2 x e'.chunks → Kept (blkOf x) (((w.setCell ⟨G, j * 4, none⟩ (.string (str e'.path))).setCell ⟨G, j * 4 + 1, none⟩ (.int .i64 e'.kind)).setCell ⟨G, j * 4 + 2, none⟩ (.int .i64 e'.size)) w2 →
        SameShape (((w.setCell ⟨G, j * 4, none⟩ (.string (str e'.path))).setCell ⟨G, j * 4 + 1, none⟩ (.int .i64 e'.kind)).setCell ⟨G, j * 4 + 2, none⟩ (.int .i64 e'.size)) w2 →
        GE B T w2 (.slice a n c) (es.set j e') := by
  obtain ⟨rs, hrs, h1, h2, h3, h4, h5⟩ := h
  have hj := (List.getElem?_eq_some_iff.1 he).1
  have hl : rs.length = es.length := by rw [← hrs, List.length_map]
  obtain ⟨r, hr⟩ : ∃ r, rs[j]? = some r := ⟨rs[j]'(by omega), List.getElem?_eq_getElem (by omega)⟩
  have hre : r.e = e := by
    have : (rs.map Rw.e)[j]? = some r.e := by rw [List.getElem?_map, hr]; rfl
    rw [hrs, he] at this
    exact (Option.some.inj this).symm
  rcases h1.2 with ⟨_, h0⟩ | ⟨G, cap, cur, h', hb, hh, hnc, hcm, hcs, htake⟩
  · omega
  · simp only [Value.slice.injEq] at h'
    obtain ⟨rfl, rfl, rfl⟩ := h'
    have hc := fun q hq => (h1.cellAt (j * 4 + q) (by omega)).trans (rowR_get rs j q r hr hq)
    have hm := List.mem_of_getElem? hr
    have hne : ∀ b, blkOf r.a b → b ≠ G := fun b hb e => ownsRow_apart h1 (h2 r hm) (by decide) (by subst e; rfl) (block_own hb)
    refine ⟨G, r.a, r.c, rfl, hb, h5 G rfl, ?_, ?_, ?_, ?_, fun i => h1.frozenAt i, ?_, fun b hb => ⟨((h2 r hm).lt b (block_own hb)).1, h4 r hm b hb, hne b hb⟩, ?_⟩
    · have := hc 0 (by decide); rw [← hre]; first | (simp [cellsR]; done) | (simpa [cellsR] using this)
    · have := hc 1 (by decide); rw [← hre]; first | (simp [cellsR]; done) | (simpa [cellsR] using this)
    · have := hc 2 (by decide); rw [← hre]; first | (simp [cellsR]; done) | (simpa [cellsR] using this)
    · have := hc 3 (by decide); rw [← hre]; first | (simp [cellsR]; done) | (simpa [cellsR] using this)
    · rw [← hre]; exact ownsRow_own (h2 r hm) rfl
    · intro e' w2 hlen ho hk hs
      have hlen' : e'.chunks.length = r.e.chunks.length := by rw [hre]; exact hlen
      have s1 := (((h1.stored (j * 4) (.string (str e'.path))).1.stored (j * 4 + 1) (.int .i64 e'.kind)).1.stored (j * 4 + 2) (.int .i64 e'.size)).1
      rw [rowR_set3 rs j r e' hr hlen'] at s1
      have hmapa : (rs.set j ⟨e', r.a, r.c⟩).map Rw.a = rs.map Rw.a := by
        rw [List.map_set]
        apply List.ext_getElem?
        intro i
        by_cases hi : i = j
        · subst hi; rw [List.getElem?_set_self (by simp; omega), List.getElem?_map, hr]; rfl
        · rw [List.getElem?_set_ne (fun e => hi e.symm)]
      have hk1 : Kept (fun b => b = G) w (((w.setCell ⟨G, j * 4, none⟩ (.string (str e'.path))).setCell ⟨G, j * 4 + 1, none⟩ (.int .i64 e'.kind)).setCell ⟨G, j * 4 + 2, none⟩ (.int .i64 e'.size)) :=
        Kept.setCell (S := fun b => b = G) (p := ⟨G, j * 4 + 2, none⟩) (Kept.two _ _ _ _ _ _) (fun _ => rfl) _
      refine ⟨rs.set j ⟨e', r.a, r.c⟩, by rw [List.map_set, hrs], ?_, ?_, ?_, ?_, h5⟩
      · rw [List.length_set]
        exact ownsRow_kept s1 hk (fun b hb hS => hne b hS (by simpa [Value.ownBlock, eq_comm] using hb))
      · intro r0 hr0
        obtain ⟨i, hi⟩ := List.mem_iff_getElem?.1 hr0
        by_cases e : i = j
        · subst e
          rw [List.getElem?_set_self (by omega)] at hi
          simp only [Option.some.injEq] at hi
          subst hi
          have r1 : (((w.setCell ⟨G, i * 4, none⟩ (.string (str e'.path))).setCell ⟨G, i * 4 + 1, none⟩ (.int .i64 e'.kind)).setCell ⟨G, i * 4 + 2, none⟩ (.int .i64 e'.size)).ownsRow B 2 1 (.slice r.a r.e.chunks.length r.c) r.e.chunks.length (r.e.chunks.map (Value.int .i64)) :=
            ownsRow_kept (h2 r hm) hk1 (fun b hb e => ownsRow_apart h1 (h2 r hm) (by decide) (by subst e; rfl) hb)
          show w2.ownsRow B 2 1 (.slice r.a e'.chunks.length r.c) e'.chunks.length (e'.chunks.map (Value.int .i64))
          rw [hlen']
          rcases (h2 r hm).2 with ⟨h', h0⟩ | ⟨g, cap', cur', h', _⟩
          · simp only [Value.slice.injEq] at h'
            have e1 : e'.chunks = [] := List.eq_nil_of_length_eq_zero (by omega)
            rw [h'.1, h'.2.2, h0, e1]
            exact World.ownsRow_nil _ _ _ _
          · simp only [Value.slice.injEq, true_and] at h'
            obtain ⟨hA, hC⟩ := h'
            rw [hA] at r1 ho ⊢
            refine own_back r1 hs (by simp [hlen']) (fun t ht => ?_)
            obtain ⟨b, off, e1, hb, hc⟩ := ho (by intro e; rw [e] at hlen'; simp at hlen'; omega)
            simp only [Option.some.injEq, Addr.mk.injEq, and_true] at e1
            obtain ⟨rfl, rfl⟩ := e1
            have := (hc t (by omega)).1
            rw [Nat.zero_add] at this
            rw [this]
            have ht2 : t < e'.chunks.length := by omega
            simp [List.getD_eq_getElem?_getD, ht2]
        · rw [List.getElem?_set_ne (fun x => e x.symm)] at hi
          have hm0 := List.mem_of_getElem? hi
          have r1 := ownsRow_kept (h2 r0 hm0) hk1 (fun b hb e => ownsRow_apart h1 (h2 r0 hm0) (by decide) (by subst e; rfl) hb)
          refine ownsRow_kept r1 hk (fun b hb hS => ?_)
          have hi' := (List.getElem?_eq_some_iff.1 hi)
          have hj' := (List.getElem?_eq_some_iff.1 hr)
          have hb0 := own_block hb
          rcases Nat.lt_or_gt_of_ne e with hlt | hlt
          · have := List.pairwise_iff_getElem.1 h3 i j hi'.1 hj'.1 hlt b (by rw [hi'.2]; exact hb0)
            rw [hj'.2] at this
            exact this hS
          · have := List.pairwise_iff_getElem.1 h3 j i hj'.1 hi'.1 hlt b (by rw [hj'.2]; exact hS)
            rw [hi'.2] at this
            exact this hb0
      · have : (rs.map Rw.a).Pairwise (fun x y => ∀ g, x.map Addr.block = some g → y.map Addr.block ≠ some g) := List.pairwise_map.2 h3
        rw [← hmapa] at this
        exact List.pairwise_map.1 this
      · intro r0 hr0 g hg
        have : r0.a ∈ (rs.set j ⟨e', r.a, r.c⟩).map Rw.a := List.mem_map_of_mem hr0
        rw [hmapa] at this
        obtain ⟨r2, hr2, e2⟩ := List.mem_map.1 this
        exact h4 r2 hr2 g (by rw [e2]; exact hg)

end Go.Proofs.YtejipahfodhmjaaGreat

namespace Go.Proofs.YtejipahfodhmjaaGreat
open Go.ChangeShapes Go.WideShapes Go.ChangeAt Go.RowKit
set_option linter.unusedVariables false

def szE : List En → Nat
  | [] => 0
  | e :: es => e.path.length + e.chunks.length + szE es
theorem szE_append : ∀ (a b : List En), szE (a ++ b) = szE a + szE b
  | [], b => by simp [szE]
  | x :: a, b => by simp only [List.cons_append, szE, szE_append a b]; omega
theorem szE_take {es : List En} {j : Nat} {e : En} (h : es[j]? = some e) : szE (es.take (j + 1)) = szE (es.take j) + e.path.length + e.chunks.length := by
  rw [take_snoc_at h, szE_append]; simp only [szE]; omega
theorem szE_le (es : List En) (j : Nat) : szE (es.take j) ≤ szE es := by
  have := szE_append (es.take j) (es.drop j)
  rw [List.take_append_drop] at this
  omega
theorem szE_mem {es : List En} {e : En} (h : e ∈ es) : e.path.length + e.chunks.length ≤ szE es := by
  induction es with
  | nil => simp at h
  | cons x es ih =>
    simp only [szE]
    rcases List.mem_cons.1 h with rfl | h
    · omega
    · have := ih h; omega
theorem szE_small {es : List En} (h : szE es ≤ 1048576) : SmallE es := fun e he => by have := szE_mem he; omega

set_option maxRecDepth 100000 in
set_option maxHeartbeats 800000 in
theorem szEntryS_fits (a : Option Addr) (c n : Nat) (es : List En) (left : Int) (w : World) (h : RdE w a es) (hn : n = es.length) (h0 : left ≤ 1048576) (hfit : (es.length : Int) + (szE es : Int) ≤ left) :
    Calls Tryz.prog 66 #[.slice a n c, .int .i64 left] w fun e w' => e = .returned (.int .i64 (left - es.length - szE es)) ∧ Below w.heap.size w w' := by
  subst hn
  have hb : ¬ (left - (es.length : Int)) < 0 := by omega
  have HA := hide h
  clear h
  go_enter Tryz.func66, Tryz.ntmps66
  go_wp2_with fail
  go_loopw [1, 5] (fun q i wr => ∃ k : Nat, k ≤ es.length ∧ i = .int .i64 k ∧ q = .int .i64 (left - es.length - szE (es.take k)) ∧ Hid (Below w.heap.size w wr)) (fun _ i _ => es.length - (intOf i).toNat)
  case atStart => exact ⟨0, Nat.zero_le _, rfl, by simp [szE], hide (Below.refl _ _)⟩
  case round =>
    obtain ⟨k, hk, rfl, rfl, HW⟩ := hrel
    by_cases hlt : k < es.length
    · obtain ⟨b, off, e, x, cc, rfl, hb1, he, c0, c1, c2, c3, hr⟩ := (HA.out.below HW.out).at hlt
      have hst := szE_take he
      have hle := szE_le es (k + 1)
      have HST := hide hst
      have hss : ((str e.path).size : Int) = (e.path.length : Int) := by rw [str_size]
      have hb2 : ¬ (left - (es.length : Int) - (szE (es.take k) : Int) - (str e.path).size - (e.chunks.length : Int)) < 0 := by omega
      clear hst hr he
      go_wp2_with fail
      refine (szEntry_fits (str e.path) _ _ _ _ _ _ _ (by omega) (by omega)).mono ?_
      rintro r w1 ⟨rfl, b1⟩
      have HB1 := hide b1
      clear b1
      go_wp2_with fail
      go_roundw
      case rel => exact ⟨k + 1, by omega, by go_num, by rw [HST.out]; go_num, hide (below_next HW.out HB1.out)⟩
      case measure => simp [intOf]; omega
    · have HE := hide (show es.take k = es from List.take_of_length_le (by omega))
      rw [HE.out]
      go_wp2_with fail
      go_ret
      exact ⟨rfl, HW.out⟩

set_option maxRecDepth 100000 in
set_option maxHeartbeats 800000 in
theorem szEntryS_not (a : Option Addr) (c n : Nat) (es : List En) (left : Int) (w : World) (h : RdE w a es) (hn : n = es.length) (h00 : 0 ≤ left) (h0 : left ≤ 1048576) (hm : (es.length : Int) ≤ 9223372036854775807) (hmE : ∀ e ∈ es, (e.path.length : Int) ≤ 9223372036854775807 ∧ (e.chunks.length : Int) ≤ 9223372036854775807) (hfit : left < (es.length : Int) + (szE es : Int)) :
    Calls Tryz.prog 66 #[.slice a n c, .int .i64 left] w fun e w' => e = .returned (.int .i64 (-1)) ∧ Below w.heap.size w w' := by
  subst hn
  by_cases hsm : left < (es.length : Int)
  · have hb : (left - (es.length : Int)) < 0 := by omega
    clear h
    go_enter Tryz.func66, Tryz.ntmps66
    go_wp2_with fail
    go_ret
    exact ⟨rfl, Below.refl _ _⟩
  · have hb : ¬ (left - (es.length : Int)) < 0 := by omega
    have HA := hide h
    have HM := hide hmE
    clear h hmE
    go_enter Tryz.func66, Tryz.ntmps66
    go_wp2_with fail
    go_loopw [1, 5] (fun q i wr => ∃ k : Nat, k ≤ es.length ∧ i = .int .i64 k ∧ q = .int .i64 (left - es.length - szE (es.take k)) ∧ (es.length : Int) + (szE (es.take k) : Int) ≤ left ∧ Hid (Below w.heap.size w wr)) (fun _ i _ => es.length - (intOf i).toNat)
    case atStart => exact ⟨0, Nat.zero_le _, rfl, by simp [szE], by simp [szE]; omega, hide (Below.refl _ _)⟩
    case round =>
      obtain ⟨k, hk, rfl, rfl, hft, HW⟩ := hrel
      have hlt : k < es.length := by
        rcases Nat.lt_or_ge k es.length with h1 | h1
        · exact h1
        · rw [List.take_of_length_le h1] at hft
          omega
      obtain ⟨b, off, e, x, cc, rfl, hb1, he, c0, c1, c2, c3, hr⟩ := (HA.out.below HW.out).at hlt
      have hst := szE_take he
      have hmk := HM.out e (List.mem_of_getElem? he)
      have HST := hide hst
      have hss : ((str e.path).size : Int) = (e.path.length : Int) := by rw [str_size]
      clear hst hr he
      by_cases hf : (es.length : Int) + (szE (es.take k) : Int) + (e.path.length : Int) + (e.chunks.length : Int) ≤ left
      · have hb2 : ¬ (left - (es.length : Int) - (szE (es.take k) : Int) - (str e.path).size - (e.chunks.length : Int)) < 0 := by omega
        go_wp2_with fail
        refine (szEntry_fits (str e.path) _ _ _ _ _ _ _ (by omega) (by omega)).mono ?_
        rintro r w1 ⟨rfl, b1⟩
        have HB1 := hide b1
        clear b1
        go_wp2_with fail
        go_roundw
        case rel => exact ⟨k + 1, by omega, by go_num, by rw [HST.out]; go_num, by rw [HST.out]; omega, hide (below_next HW.out HB1.out)⟩
        case measure => simp [intOf]; omega
      · go_wp2_with fail
        refine (szEntry_not (str e.path) _ _ _ _ _ _ _ (by omega) (by omega) (by omega) (by omega) (by omega)).mono ?_
        rintro r w1 ⟨rfl, b1⟩
        have HB1 := hide b1
        clear b1
        go_wp2_with fail
        go_ret
        exact ⟨rfl, below_next HW.out HB1.out⟩

def zEn : En := ⟨[], 0, 0, []⟩
theorem rowR_set4 : ∀ (rs : List Rw) (j : Nat) (r : Rw), j < rs.length →
    ((((rowR rs).set (j * 4) (.string (str r.e.path))).set (j * 4 + 1) (.int .i64 r.e.kind)).set (j * 4 + 2) (.int .i64 r.e.size)).set (j * 4 + 3) (.slice r.a r.e.chunks.length r.c) = rowR (rs.set j r)
  | [], j, r, h => by simp at h
  | x :: rs, 0, r, h => by simp [rowR, cellsR]
  | x :: rs, j + 1, r, h => by
    have ih := rowR_set4 rs j r (by simpa using h)
    have e1 : rowR (x :: rs) = cellsR x ++ rowR rs := rfl
    have e2 : rowR ((x :: rs).set (j + 1) r) = cellsR x ++ rowR (rs.set j r) := rfl
    have hx : (cellsR x).length = 4 := rfl
    rw [e1, e2, ← ih, List.set_append_right _ _ (by omega), List.set_append_right _ _ (by omega), List.set_append_right _ _ (by omega), List.set_append_right _ _ (by omega), hx]
    rw [show (j + 1) * 4 - 4 = j * 4 by omega, show (j + 1) * 4 + 1 - 4 = j * 4 + 1 by omega, show (j + 1) * 4 + 2 - 4 = j * 4 + 2 by omega, show (j + 1) * 4 + 3 - 4 = j * 4 + 3 by omega]

theorem GE.store {B : Nat} {w w1 : World} {G n c : Nat} {es : List En} {j : Nat} {e : En} {a : Option Addr} {cc : Nat} (h : GE B w.heap.size w (.slice (some ⟨G, 0, none⟩) n c) es) (hn : n = es.length) (hj : j < es.length) (hB : B ≤ w.heap.size) (hbel : Below w.heap.size w w1)
    (hown : w1.ownsRow w.heap.size 2 1 (.slice a e.chunks.length cc) e.chunks.length (e.chunks.map (Value.int .i64))) :
    GE B w1.heap.size ((((w1.setCell ⟨G, j * 4, none⟩ (.string (str e.path))).setCell ⟨G, j * 4 + 1, none⟩ (.int .i64 e.kind)).setCell ⟨G, j * 4 + 2, none⟩ (.int .i64 e.size)).setCell ⟨G, j * 4 + 3, none⟩ (.slice a e.chunks.length cc)) (.slice (some ⟨G, 0, none⟩) n c) (es.set j e) := by
  subst hn
  obtain ⟨rs, hrs, h1, h2, h3, h4, h5⟩ := h
  have hl : rs.length = es.length := by rw [← hrs, List.length_map]
  have k1 := ownsRow_below h1 hbel
  have hsz := hbel.size
  have s1 := ((((k1.stored (j * 4) (.string (str e.path))).1.stored (j * 4 + 1) (.int .i64 e.kind)).1.stored (j * 4 + 2) (.int .i64 e.size)).1.stored (j * 4 + 3) (.slice a e.chunks.length cc)).1
  rw [rowR_set4 rs j ⟨e, a, cc⟩ (by omega)] at s1
  have hkp : Kept (fun b => b = G) w1 ((((w1.setCell ⟨G, j * 4, none⟩ (.string (str e.path))).setCell ⟨G, j * 4 + 1, none⟩ (.int .i64 e.kind)).setCell ⟨G, j * 4 + 2, none⟩ (.int .i64 e.size)).setCell ⟨G, j * 4 + 3, none⟩ (.slice a e.chunks.length cc)) :=
    Kept.setCell (S := fun b => b = G) (p := ⟨G, j * 4 + 3, none⟩) (Kept.setCell (S := fun b => b = G) (p := ⟨G, j * 4 + 2, none⟩) (Kept.two _ _ _ _ _ _) (fun _ => rfl) _) (fun _ => rfl) _
  have hold : ∀ r ∈ rs, ∀ g, r.a.map Addr.block = some g → g < w.heap.size := fun r hr g hg => ((h2 r hr).lt g (block_own hg)).2
  have hnew : ∀ g, a.map Addr.block = some g → w.heap.size ≤ g ∧ g < w1.heap.size := fun g hg => hown.lt g (block_own hg)
  refine ⟨rs.set j ⟨e, a, cc⟩, by rw [List.map_set, hrs], by rw [List.length_set]; exact s1, ?_, ?_, ?_, fun b hb => by have := h5 b hb; omega⟩
  · intro r0 hr0
    rcases List.mem_or_eq_of_mem_set hr0 with hr | rfl
    · have q2 := ownsRow_below (h2 r0 hr) hbel
      exact ownsRow_kept q2 hkp (fun b hb hS => ownsRow_apart k1 q2 (by decide) (by subst hS; rfl) hb)
    · exact ownsRow_kept (ownsRow_mono hown hB) hkp (fun b hb hS => ownsRow_apart k1 hown (by decide) (by subst hS; rfl) hb)
  · rw [List.pairwise_iff_getElem]
    intro i i' hi hi' hlt g hg hg'
    rw [List.length_set] at hi hi'
    rw [List.getElem_set] at hg hg'
    by_cases e1 : j = i
    · rw [if_pos e1] at hg
      rw [if_neg (by omega)] at hg'
      have := hold _ (List.getElem_mem hi') g hg'
      have := hnew g hg
      omega
    · rw [if_neg e1] at hg
      by_cases e2 : j = i'
      · rw [if_pos e2] at hg'
        have := hold _ (List.getElem_mem hi) g hg
        have := hnew g hg'
        omega
      · rw [if_neg e2] at hg'
        exact List.pairwise_iff_getElem.1 h3 i i' hi hi' hlt g hg hg'
  · intro r0 hr0 g hg
    rcases List.mem_or_eq_of_mem_set hr0 with hr | rfl
    · have := hold r0 hr g hg; omega
    · exact (hnew g hg).2
theorem zeros_row (n : Nat) : (madeCells (Value.agg #[.string ⟨#[]⟩, .int .i64 0, .int .i64 0, .slice none 0 0]).cells (n * 4)).toList = rowR (List.replicate n ⟨zEn, none, 0⟩) := by
  have hl := rowR_length (List.replicate n ⟨zEn, none, 0⟩)
  rw [List.length_replicate] at hl
  apply List.ext_getElem?
  intro p
  by_cases hp : p < n * 4
  · have e : p = p / 4 * 4 + p % 4 := by omega
    have h1 : p / 4 < n := by omega
    have h2 : p % 4 < 4 := by omega
    rw [e, rowR_get _ (p / 4) (p % 4) ⟨zEn, none, 0⟩ (by simp [h1]) h2, ← e]
    have hm : p % 4 = 0 ∨ p % 4 = 1 ∨ p % 4 = 2 ∨ p % 4 = 3 := by omega
    rcases hm with hm | hm | hm | hm <;> simp [madeCells, hp, hm, cellsR, zEn, Value.cells, str]
  · rw [List.getElem?_eq_none (by simp [madeCells]; omega), List.getElem?_eq_none (by omega)]
theorem GE.zeros {B n T : Nat} {w : World} {v : Value} (h : w.ownsRow B 40 4 v n (madeCells (Value.agg #[.string ⟨#[]⟩, .int .i64 0, .int .i64 0, .slice none 0 0]).cells (n * 4)).toList) (hT : ∀ b, v.ownBlock = some b → b < T) : GE B T w v (List.replicate n zEn) := by
  refine ⟨List.replicate n ⟨zEn, none, 0⟩, by simp, by rw [List.length_replicate, ← zeros_row]; exact h, fun r hr => ?_, ?_, fun r hr g hg => ?_, hT⟩
  · rw [(List.mem_replicate.1 hr).2]; exact World.ownsRow_nil _ _ _ _
  · rw [List.pairwise_iff_getElem]
    intro i i' hi hi' hlt g hg
    simp at hg
  · rw [(List.mem_replicate.1 hr).2] at hg
    simp at hg

set_option maxRecDepth 100000 in
set_option maxHeartbeats 1600000 in
theorem toEntryS_any (a : Option Addr) (c n : Nat) (es : List En) (w : World) (h : RdE w a es) (hn : n = es.length) (hl : es.length ≤ 1048576) (hs : SmallE es) :
    Calls Tryz.prog 68 #[.slice a n c] w fun e w' => ∃ G, e = .returned (.slice (some ⟨G, 0, none⟩) n n) ∧ w.heap.size ≤ G ∧ GE w.heap.size w'.heap.size w' (.slice (some ⟨G, 0, none⟩) n n) es ∧ Below w.heap.size w w' := by
  subst hn
  obtain ⟨i1, ki, kz0, kz1, kz2⟩ := info_parts Tryz.infoEn
  have HA := hide h
  have HS := hide hs
  clear h hs
  have hby : i1.bytes * es.length ≤ 281474976710656 := by rw [kz2]; omega
  have hml : es.length ≤ maxLen := by unfold maxLen; omega
  go_enter Tryz.func68, Tryz.ntmps68
  go_wp2_with (at_make; refine wpList_make_full _ rfl (.tmp 6) (.tmp 6) 35 rfl w.heap.size 40 i1 (.agg #[.string ⟨#[]⟩, .int .i64 0, .int .i64 0, .slice none 0 0]) 4 Tryz.underlying35 ki kz0 kz1 .i64 .i64 _ _ es.length rfl rfl rfl rfl hby hml (Nat.le_refl _) ?_; intro w1 ho1 hg1; have HO1 := hide ho1; have HG1 := hide hg1; clear ho1 hg1)
  have B1 : Hid (Below w.heap.size w w1) := (Below.refl _ _).grown HG1.out (Nat.le_refl _) (fun k hk => by simp at hk)
  have G1 : Hid (GE w.heap.size w1.heap.size w1 (.slice (some ⟨w.heap.size, 0, none⟩) es.length es.length) (List.replicate es.length zEn)) := hide (GE.zeros HO1.out (fun b hb => (HO1.out.lt b hb).2))
  clear HO1 HG1
  go_loopw [4] (fun i wr => ∃ k : Nat, k ≤ es.length ∧ i = .int .i64 k ∧ Hid (GE w.heap.size wr.heap.size wr (.slice (some ⟨w.heap.size, 0, none⟩) es.length es.length) (es.take k ++ List.replicate (es.length - k) zEn)) ∧ Hid (Below w.heap.size w wr)) (fun i _ => es.length - (intOf i).toNat)
  case atStart => exact ⟨0, Nat.zero_le _, rfl, hide (by simpa using G1.out), B1⟩
  case round =>
    obtain ⟨k, hk, rfl, HG, HW⟩ := hrel
    clear G1 B1
    have hsz := HW.out.size
    by_cases hlt : k < es.length
    · obtain ⟨b, off, e, x, cc, rfl, hb1, he, c0, c1, c2, c3, hr⟩ := (HA.out.below HW.out).at hlt
      have hsm := HS.out e (List.mem_of_getElem? he)
      have HX := hide he
      have HRc := hide hr
      clear he hr
      have hlen : (es.take k ++ List.replicate (es.length - k) zEn).length = es.length := by simp; omega
      have HSTEP := hide (show (es.take k ++ List.replicate (es.length - k) zEn).set k e = es.take (k + 1) ++ List.replicate (es.length - (k + 1)) zEn from by
        rw [List.set_append_right _ _ (by rw [List.length_take]; omega), List.length_take, show k - min k es.length = 0 by omega, take_snoc_at HX.out, show es.length - k = (es.length - (k + 1)) + 1 by omega, List.replicate_succ]
        simp)
      have HZ := hide (show (es.take k ++ List.replicate (es.length - k) zEn)[k]? = some zEn from by
        rw [List.getElem?_append_right (by rw [List.length_take]; omega), List.length_take]
        rw [List.getElem?_replicate]
        rw [if_pos (by omega)])
      have HLE := hide hlen
      clear hlen
      generalize es.take k ++ List.replicate (es.length - k) zEn = L at HG HSTEP HZ HLE
      go_wp2_with fail
      refine (toEntry_any _ _ _ _ _ e.chunks _ HRc.out hsm.2).mono ?_
      rintro r w2 ⟨g, rfl, hg, ho, hb⟩
      obtain ⟨G, x', y', hGe, hg1, hg2, m0, m1, m2, m3, mf, -⟩ := (HG.out.below hb).open HZ.out
      simp only [Option.some.injEq, Addr.mk.injEq, and_true] at hGe
      subst hGe
      have mf0 := mf (k * 4)
      have mf1 := mf (k * 4 + 1)
      have mf2 := mf (k * 4 + 2)
      have mf3 := mf (k * 4 + 3)
      have HO2 := hide ho
      have HB2 := hide hb
      clear ho hb mf
      go_wp2_with fail
      go_roundw
      case rel =>
        refine ⟨k + 1, by omega, by go_num, hide ?_, hide ((((HW.out.trans (HB2.out.mono hsz)).setCell (p := ⟨w.heap.size, k * 4, none⟩) (Nat.le_refl _) _).setCell (p := ⟨w.heap.size, k * 4 + 1, none⟩) (Nat.le_refl _) _).setCell (p := ⟨w.heap.size, k * 4 + 2, none⟩) (Nat.le_refl _) _ |>.setCell (p := ⟨w.heap.size, k * 4 + 3, none⟩) (Nat.le_refl _) _)⟩
        have := GE.store HG.out (e := e) HLE.out.symm (show k < L.length by rw [HLE.out]; exact hlt) hsz HB2.out HO2.out
        rw [HSTEP.out] at this
        simpa [World.setCell] using this
      case measure => simp [intOf]; omega
    · have hke : k = es.length := by omega
      have HE := hide (show es.take k ++ List.replicate (es.length - k) zEn = es from by rw [List.take_of_length_le (by omega), show es.length - k = 0 by omega]; simp)
      clear hke
      rw [HE.out] at HG
      go_wp2_with fail
      go_ret
      exact ⟨_, rfl, Nat.le_refl _, HG.out, HW.out⟩

theorem entries_of_trod {H : Type} {enc : TypeId × Value → H} {W : World} {a : Option Addr} {n c fuel : Nat} {x : DataW H × List MemPlace}
    (h : DataW.trod enc Tryz.prog W 0 (fun _ => true) true fuel 122 [.slice a n c] = some x) :
    ∃ es : List En, es.length = n ∧ RdE W a es ∧ es.length ≤ maxLen ∧ ∀ e ∈ es, e.path.length ≤ maxLen ∧ e.chunks.length ≤ maxLen := by
  rcases Deep.open_slice Tryz.underlying122 h with ⟨hcs, _⟩ | ⟨ad, l, cp, m, fu, D, Pl, hcs, _, hl, hm, hmm, _, hx⟩
  · simp at hcs
    obtain ⟨rfl, rfl, rfl⟩ := hcs
    exact ⟨[], rfl, fun h => absurd rfl h, Nat.zero_le _, fun e he => by simp at he⟩
  · simp at hcs
    obtain ⟨rfl, rfl, rfl⟩ := hcs
    simp only [if_true] at hmm
    subst hmm
    have ce : Tryz.prog.cellsOf 169 = 4 := by kernel_rfl
    have each : ∀ i, i < n → ∃ q : En × Option Addr × Nat, (W.cell? (ad.add (i * 4)) = some (.string (str q.1.path)) ∧ W.cell? (ad.add (i * 4 + 1)) = some (.int .i64 q.1.kind) ∧ W.cell? (ad.add (i * 4 + 2)) = some (.int .i64 q.1.size) ∧ W.cell? (ad.add (i * 4 + 3)) = some (.slice q.2.1 q.1.chunks.length q.2.2)) ∧ InE W q.1 q.2.1 := by
      intro i hi
      obtain ⟨cs', h1, h2⟩ := hx i (by omega)
      rw [ce] at h1
      obtain ⟨e, a1, c1, rfl, hin⟩ := entry_of_trod h2
      obtain ⟨_, hlen, hcell⟩ := World.cells?_some h1
      have e0 := hcell 0 (by omega)
      have e1 := hcell 1 (by omega)
      have e2 := hcell 2 (by omega)
      have e3 := hcell 3 (by omega)
      rw [Deep.add_add] at e0 e1 e2 e3
      exact ⟨(e, a1, c1), ⟨by simpa using e0, by simpa using e1, by simpa using e2, by simpa using e3⟩, hin⟩
    haveI : Inhabited (En × Option Addr × Nat) := ⟨(zEn, none, 0)⟩
    obtain ⟨q, hq⟩ := Deep.choose_lt each
    refine ⟨(List.range n).map fun i => (q i).1, by simp, ?_, by simp; omega, ?_⟩
    · intro hz
      have hn : 0 < n := by
        rcases Nat.eq_zero_or_pos n with h0 | h0
        · subst h0; exact absurd rfl hz
        · exact h0
      obtain ⟨b, off, spot⟩ := ad
      have hspot : spot = none := by simpa [Addr.add] using World.cell?_spot (hq 0 hn).1.1
      subst hspot
      refine ⟨b, off, fun i => (q i).2.1, fun i => (q i).2.2, rfl, World.block_lt_of_cell? W _ (by simpa [Addr.add] using (hq 0 hn).1.1), fun i e he => ?_⟩
      have hi : i < n := by have := (List.getElem?_eq_some_iff.1 he).1; simpa using this
      have hee : (q i).1 = e := by simpa [hi] using he
      subst hee
      obtain ⟨⟨c0, c1, c2, c3⟩, hin⟩ := hq i hi
      rw [add_addr] at c0 c1 c2 c3
      exact ⟨c0, by rw [Nat.add_assoc]; exact c1, by rw [Nat.add_assoc]; exact c2, by rw [Nat.add_assoc]; exact c3, hin.rd⟩
    · intro e he
      obtain ⟨i, hi, rfl⟩ := List.mem_map.1 he
      have hin := (hq i (List.mem_range.1 hi)).2
      exact ⟨hin.pl, hin.cl⟩

end Go.Proofs.YtejipahfodhmjaaGreat

namespace Go.Proofs.YtejipahfodhmjaaGreat
open Go.RowKit Go.Maps
set_option linter.unusedVariables false
attribute [local go_sem ↓] Go.wp_at_zero Go.wp_at_succ

theorem saw_some {ls : List (List En)} {p : Bs} {e : En} (h4 : ls.length ≤ 4) (hR : ∀ es ∈ ls, Right es) (hp : faultP p = 0) (h : findE (allE ls) p = some e) : ∃ i f, seenL ls p = some i ∧ seeL ls i p = some f ∧ asT f = e := by
  rw [all_find (rights_fit hR) h4 hp, sawE] at h
  cases hs : seenL ls p with
  | none => rw [hs] at h; cases h
  | some i =>
    obtain ⟨-, f, hf, -⟩ := seen_some (show seenG (seeL ls) p 4 = some i from hs)
    rw [hs] at h
    simp [hf] at h
    exact ⟨i, f, rfl, hf, h⟩
theorem l8Look_yes (a : Option Addr) (c n : Nat) (ls : List (List En)) (p : Bs) (w : World) (h : RdL w a ls) (hn : n = ls.length) (h4 : ls.length ≤ 4) (hR : ∀ es ∈ ls, Right es) (hp : faultP p = 0) (hpl : p.length ≤ 1048576) (e : En) (hs : findE (allE ls) p = some e) :
    Calls Tryz.prog 77 #[.slice a n c, .string (str p)] w (LookYes e w) := by
  obtain ⟨i, f, h1, h2, h3⟩ := saw_some h4 hR hp hs
  have := l8Look_some a c n ls p w h hn h4 hR hp hpl i f h1 h2
  rwa [h3] at this
end Go.Proofs.YtejipahfodhmjaaGreat

