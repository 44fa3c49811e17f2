/-
  Texts put together: LazQ FetL LazI SeeT MntB MntI LazJ OvrS.
-/
import Derived.Test.YtejipahfodhmjaaGreatKWhole16
import Derived.Test.YtejipahfodhmjaaGreatKWhole18
import Derived.Test.YtejipahfodhmjaaGreatKWhole11
import Derived.Test.YtejipahfodhmjaaGreatKWhole1
import Derived.Test.YtejipahfodhmjaaGreatKWhole3
import Derived.Laws.CopyRow
import Derived.ProofKit
import Derived.Deep.DrawnRows
import Derived.Test.YtejipahfodhmjaaGreatKWhole8
import Derived.Test.YtejipahfodhmjaaGreatKWhole10
import Derived.Test.YtejipahfodhmjaaGreatKWhole6
import Derived.Shelf.SlSortCmp.WholeK
import Derived.Ground.SlsfProg
import Derived.Test.YtejipahfodhmjaaGreatProg
import Derived.Test.YtejipahfodhmjaaGreatKWhole9
import Derived.Test.YtejipahfodhmjaaGreatKWhole15
namespace Go.Proofs.YtejipahfodhmjaaGreat
open Go.RowKit Go.Maps
set_option linter.unusedVariables false
attribute [local go_sem ↓] Go.wp_at_zero Go.wp_at_succ

set_option maxRecDepth 100000 in
set_option maxHeartbeats 6400000 in
theorem specPathsOver_any (a : Option Addr) (c n : Nat) (ls : List (List En)) (w : World) (h : RdL w a ls) (hn : n = ls.length) (hl : ls.length ≤ 1048576) (hs : SmallL ls) (hg : ∀ es ∈ ls, layFault es = layFaultP es) :
    Calls Tryz.prog 23 #[.slice a n c] w (ResN (layersP ls) (pthL ls) w) := by
  subst hn
  have X0 := hide (Box.new w (.int .i64 0) (.slice none 0 0) 52)
  have B0 := hide (below_alloc w (.cells #[.int .i64 0, .slice none 0 0] 52))
  have HLF := hide (specLayersFault_any a c ls.length ls _ (h.below B0.out) rfl hl hs hg)
  have HR := hide h
  clear h hs hg
  by_cases hz : layersP ls = 0
  · obtain ⟨h4, hRs⟩ := layersP_zero.1 hz
    rw [hz] at HLF ⊢
    have HRi := hide hRs
    have HPT := hide (show pthL ls = (allE ls).map En.path from by rw [pthL, if_pos hz])
    clear hz hRs
    go_enter Tryz.func23, Tryz.ntmps23
    go_wp2_with fail
    refine HLF.out.mono ?_
    rintro r w1 ⟨rfl, hb1⟩
    have B1 := hide (below_next B0.out hb1)
    have X1 := hide (X0.out.below hb1)
    have BB := hide (below_next B1.out (below_alloc w1 (.cells #[.int .i64 0, .slice none 0 0] 52)))
    have XO := hide (Box.new w1 (.int .i64 0) (.slice none 0 0) 52)
    have X2 := hide (X1.out.below (below_alloc w1 (.cells #[.int .i64 0, .slice none 0 0] 52)))
    have hlt1 : w.heap.size < w1.heap.size := X1.out.1.lt
    have hsz2 : (w1.alloc (.cells #[.int .i64 0, .slice none 0 0] 52)).heap.size = w1.heap.size + 1 := by simp
    clear hb1 X0 B0 HLF B1 X1
    obtain ⟨⟨t0, t1⟩, t2, t3⟩ := XO.out
    go_wp2_with fail
    clear t0 t1 t2 t3
    generalize w1.alloc (.cells #[.int .i64 0, .slice none 0 0] 52) = W2 at *
    generalize w1.heap.size = bO at *
    go_loopw [5] (fun i wr => ∃ (k m : Nat) (av : Option Addr) (cv : Nat) (ns : List Bs), k ≤ ls.length ∧ i = .int .i64 k ∧ ns.length ≤ m ∧ m ≤ 12 * k ∧ Hid (Box wr bO (.int .i64 0) (.slice av ns.length cv)) ∧ Hid (OwnS (bO + 1) wr (.slice av ns.length cv) ns) ∧ Hid (NmS ls k 0 ns) ∧ Hid (Below w.heap.size w wr) ∧ Hid (Box wr w.heap.size (.int .i64 0) (.slice none 0 0)) ∧ bO < wr.heap.size) (fun i _ => ls.length - (intOf i).toNat)
    case atStart => exact ⟨0, 0, none, 0, [], Nat.zero_le _, rfl, Nat.zero_le _, Nat.zero_le _, XO, hide (OwnS.nil _ _), hide (NmS.start ls), BB, X2, by omega⟩
    case round =>
      obtain ⟨k, m, av, cv, ns, hk, rfl, hnm, hm, HX, HO, HN, HW, HZ, hbw⟩ := hrel
      by_cases hlt : k < ls.length
      · obtain ⟨b, off, es, x, cc, rfl, hb, he, c0, hr⟩ := HR.out.at hlt
        have hRi := HRi.out es (List.mem_of_getElem? he)
        have hel := hRi.len
        have HRE := hide hr
        have HLk := hide he
        have HRI := hide hRi
        have HSM := hide (right_small hRi)
        have KC : Hid (∀ w', Below w.heap.size w w' → w'.cell? ⟨b, off + k, none⟩ = some (.slice x es.length cc)) := hide (fun w' hb' => (hb'.cell (p := ⟨b, off + k, none⟩) hb).trans c0)
        have hk0 : (0 : Int) ≤ (k : Int) := by omega
        have hk1 : (k : Int) < (ls.length : Int) := by omega
        clear hr hRi he c0
        go_wp2_with fail
        go_loopw [6] (fun i wx => ∃ (j m : Nat) (av : Option Addr) (cv : Nat) (ns : List Bs), j ≤ es.length ∧ i = .int .i64 j ∧ ns.length ≤ m ∧ m ≤ 12 * k + j ∧ Hid (Box wx bO (.int .i64 0) (.slice av ns.length cv)) ∧ Hid (OwnS (bO + 1) wx (.slice av ns.length cv) ns) ∧ Hid (NmS ls k j ns) ∧ Hid (Below w.heap.size w wx) ∧ Hid (Box wx w.heap.size (.int .i64 0) (.slice none 0 0)) ∧ bO < wx.heap.size) (fun i _ => es.length - (intOf i).toNat)
        case atStart => exact ⟨0, m, av, cv, ns, Nat.zero_le _, rfl, hnm, by omega, HX, HO, HN, HW, HZ, hbw⟩
        case round =>
          clear HX HO HN HW HZ hbw hnm hm
          obtain ⟨j, m, av, cv, ns, hj, rfl, hnm, hm, HX, HO, HN, HW, HZ, hbw⟩ := hrel
          have c0 := KC.out _ HW.out
          by_cases hlt2 : j < es.length
          · obtain ⟨bb, off2, e, y, yc, hxe, hbb, he, z0, z1, z2, z3, hrc⟩ := HRE.out.at hlt2
            subst hxe
            have hpf := entFault_zero (HRI.out.ent e (List.mem_of_getElem? he))
            have hsm := HSM.out e (List.mem_of_getElem? he)
            have KE : Hid (∀ w', Below w.heap.size w w' → w'.cell? ⟨bb, off2 + j * 4, none⟩ = some (.string (str e.path))) := hide (fun w' hb' => (hb'.cell (p := ⟨bb, off2 + j * 4, none⟩) hbb).trans z0)
            have e0 := KE.out _ HW.out
            have HPL := hide (l8Place_any (some ⟨b, off, none⟩) c ls.length ls e.path wr (HR.out.below HW.out) rfl h4 HRi.out hpf hsm.1)
            have hj0 : (0 : Int) ≤ (j : Int) := by omega
            have hj1 : (j : Int) < (es.length : Int) := by omega
            have HPF := hide hpf
            have HEj := hide he
            clear he hrc z0 z1 z2 z3 hpf
            obtain ⟨LN, hLN⟩ : ∃ LN, LN = ns.length := ⟨_, rfl⟩
            rw [← hLN] at HX HO hnm
            have HLN := hide hLN
            clear hLN
            cases hsn : seenL ls e.path with
            | none =>
              rw [hsn, show placeI none = -1 from rfl] at HPL
              have HN2 := hide (HN.out.skip HLk.out HEj.out (.inl hsn))
              clear hsn
              go_wp2_with fail
              refine HPL.out.mono ?_
              rintro r w3 ⟨rfl, hb3⟩
              have HX3 := hide (HX.out.below hb3)
              have HO3 := hide (HO.out.below hb3)
              have HW3 := hide (below_next HW.out hb3)
              have HZ3 := hide (HZ.out.below hb3)
              have hb3s := hb3.size
              clear hb3 HX HO HW HZ HPL c0 e0
              go_wp2_with fail
              go_roundw
              case rel =>
                have e9 := HLN.out
                subst e9
                exact ⟨j + 1, m, av, cv, ns, by omega, by go_num, hnm, by omega, HX3, HO3, HN2, HW3, HZ3, by omega⟩
              case measure => simp [intOf]; omega
            | some q =>
              rw [hsn, show placeI (some q) = (q : Int) from rfl] at HPL
              have HSN := hide hsn
              clear hsn
              have hq0 : (0 : Int) ≤ (q : Int) := by omega
              go_wp2_with fail
              refine HPL.out.mono ?_
              rintro r w3 ⟨rfl, hb3⟩
              have HX3 := hide (HX.out.below hb3)
              have HO3 := hide (HO.out.below hb3)
              have HW3 := hide (below_next HW.out hb3)
              have HZ3 := hide (HZ.out.below hb3)
              have hb3s := hb3.size
              clear hb3 HX HO HW HZ HPL c0 e0
              have HIN := hide (l8In_any av cv LN ns e.path w3 HO3.out.reads HLN.out (by rw [← HLN.out]; omega))
              obtain ⟨⟨t0, t1⟩, t2, t3⟩ := HX3.out
              by_cases hmm : e.path ∈ ns
              · rw [decide_eq_true hmm] at HIN
                have HN2 := hide (HN.out.skip HLk.out HEj.out (.inr hmm))
                clear hmm
                go_wp2_with fail
                refine HIN.out.mono ?_
                rintro r w4 ⟨rfl, hw4⟩
                have hw5 := hw4.symm
                clear hw4
                subst hw5
                go_wp2_with fail
                go_roundw
                case rel =>
                  have e9 := HLN.out
                  subst e9
                  exact ⟨j + 1, m, av, cv, ns, by omega, by go_num, hnm, by omega, HX3, HO3, HN2, HW3, HZ3, by omega⟩
                case measure => simp [intOf]; omega
              · rw [decide_eq_false hmm] at HIN
                have HPN := hide (HN.out.put HLk.out HEj.out HSN.out hmm HPF.out hsm.1)
                clear hmm
                have HPU := hide (l8Put_any av cv LN ns e.path w3 HO3.out HLN.out (by rw [← HLN.out]; omega))
                go_wp2_with fail
                refine HIN.out.mono ?_
                rintro r w4 ⟨rfl, hw4⟩
                have hw5 := hw4.symm
                clear hw4
                subst hw5
                go_wp2_with fail
                refine HPU.out.mono ?_
                rintro r w6 ⟨av6, cv6, rfl, hO6, hb6⟩
                have HX6 := hide (HX3.out.below hb6)
                have HW6 := hide (below_next HW3.out hb6)
                have HZ6 := hide (HZ3.out.below hb6)
                have O6 := hide hO6
                have HL6 := hide (putS_len ns e.path)
                have hb6s := hb6.size
                clear hO6 hb6 t0 t1 t2 t3
                obtain ⟨⟨t0, t1⟩, t2, t3⟩ := HX6.out
                generalize putS ns e.path = ns6 at *
                clear HPU HIN
                go_wp2_with fail
                go_roundw
                case rel =>
                  have e9 := HLN.out
                  have e8 := HL6.out
                  refine ⟨j + 1, m + 1, av6, cv6, ns6, by omega, by go_num, by omega, by omega, hide ?_, hide ?_, HPN, hide ?_, hide ?_, by simp [World.setCell]; omega⟩
                  · exact box_set1 HX6.out _
                  · exact (O6.out.mono (by omega)).kept (Kept.setCell (S := fun b => b = bO) (p := ⟨bO, 1, none⟩) (Kept.refl _ w6) (fun _ => rfl) _) (fun g hg hS => by have := (O6.out.lt g hg).1; omega)
                  · exact HW6.out.setCell (p := ⟨bO, 1, none⟩) (by show w.heap.size ≤ bO; omega) _
                  · exact HZ6.out.kept (Kept.setCell (S := fun b => b = bO) (p := ⟨bO, 1, none⟩) (Kept.refl _ w6) (fun _ => rfl) _) (by omega)
                case measure => simp [intOf]; omega
          · go_wp2_with fail
            go_roundw
            case rel =>
              have hje : j = es.length := by omega
              subst hje
              exact ⟨k + 1, m, av, cv, ns, by omega, by go_num, hnm, by omega, HX, HO, hide (HN.out.next HLk.out), HW, HZ, hbw⟩
            case measure => simp [intOf]; omega
      · obtain ⟨⟨t0, t1⟩, t2, t3⟩ := HX.out
        obtain ⟨⟨r0, r1⟩, r2, r3⟩ := HZ.out
        have hne : bO ≠ w.heap.size := by omega
        have hke : k = ls.length := by omega
        have HNE := hide (show ns = pthL ls from by rw [HPT.out]; exact NmS.all (by rw [← hke]; exact HN.out) HRi.out h4)
        have hown := HO.out
        have HOL := hide (fun g hg => (hown.lt g hg).1)
        clear hown hke
        go_wp2_with fail
        refine bodyPost_ret (v := .agg #[.int .i64 0, .slice av ns.length cv]) (by simp [results, Tryz.results23, go_sem, r0, r1]) rfl ?_
        rw [← HNE.out]
        refine ⟨av, cv, rfl, ?_, ?_⟩
        · exact (HO.out.kept (Kept.two wr w.heap.size 0 1 _ _) (fun g hg hS => by have := HOL.out g hg; omega)).mono (by omega)
        · exact (HW.out.setCell (p := ⟨w.heap.size, 0, none⟩) (Nat.le_refl _) _).setCell (p := ⟨w.heap.size, 1, none⟩) (Nat.le_refl _) _
  · have HCC := hide (show pthL ls = [] from by rw [pthL, if_neg hz])
    generalize layersP ls = F at *
    have hz2 : (F != 0) = true := by simp; exact hz
    clear hz
    go_enter Tryz.func23, Tryz.ntmps23
    go_wp2_with fail
    refine HLF.out.mono ?_
    rintro r w1 ⟨rfl, hb1⟩
    have B1 := hide (below_next B0.out hb1)
    obtain ⟨⟨t0, t1⟩, t2, t3⟩ := X0.out.below hb1
    clear hb1
    go_wp2_with fail
    exact bodyPost_ret (v := .agg #[.int .i64 F, .slice none 0 0]) (by simp [results, Tryz.results23, go_sem, t0, t1]) rfl (by rw [HCC.out]; exact ResN.bad (Nat.le_refl _) B1.out)
end Go.Proofs.YtejipahfodhmjaaGreat

namespace Go.Proofs.YtejipahfodhmjaaGreat
open Go.RowKit
set_option linter.unusedVariables false

theorem getD_mem {α : Type} {l : List α} {i : Nat} (x : α) (h : i < l.length) : l.getD i x ∈ l := by
  rw [List.getD_eq_getElem?_getD, List.getElem?_eq_getElem h]; exact List.getElem_mem h
end Go.Proofs.YtejipahfodhmjaaGreat

namespace Go.Proofs.YtejipahfodhmjaaGreat
open Go.RowKit Go.Maps
set_option linter.unusedVariables false
attribute [local go_sem ↓] Go.wp_at_zero Go.wp_at_succ

set_option maxRecDepth 100000 in
set_option maxHeartbeats 800000 in
theorem lacFault_any (a : Option Addr) (c m : Nat) (ls : List (List En)) (b : Option Addr) (d n : Nat) (D : Nat → Int) (P : Nat → List Int) (w : World) (h : RdL w a ls) (hm : m = ls.length) (hl : ls.length ≤ 1048576) (hs : SmallL ls) (hC : RdC w b D P n) (hn : n ≤ 1048576) (hP : ∀ i, i < n → U8 (P i) ∧ (P i).length ≤ 1048576) :
    Calls Tryz.prog 54 #[.slice a m c, .slice b n d] w fun e w' => e = .returned (.int .i64 (lacF ls D P n)) ∧ Below w.heap.size w w' := by
  subst hm
  have HLF := hide (implLayersFault_any a c ls.length ls w h rfl hl hs)
  have HCF := hide (fun (u : World) (hu : Below w.heap.size w u) => implFault_any b d n D P u (hC.below hu) hn hP)
  unfold lacF
  clear h hC hP hs
  by_cases hz : layersP ls = 0
  · rw [hz] at HLF
    rw [if_pos hz]
    generalize fault D P n = F at *
    clear hz
    go_enter Tryz.func54, Tryz.ntmps54
    go_wp2_with fail
    refine HLF.out.mono ?_
    rintro r w1 ⟨rfl, hb1⟩
    have B1 := hide hb1
    clear hb1
    go_wp2_with fail
    refine (HCF.out _ B1.out).mono ?_
    rintro r w2 ⟨rfl, hb2⟩
    have B2 := hide (below_next B1.out hb2)
    clear hb2
    go_wp2_with fail
    go_ret
    exact ⟨rfl, B2.out⟩
  · rw [if_neg hz]
    generalize layersP ls = F at *
    have hz2 : (F != 0) = true := by simp; exact hz
    clear hz
    go_enter Tryz.func54, Tryz.ntmps54
    go_wp2_with fail
    refine HLF.out.mono ?_
    rintro r w1 ⟨rfl, hb1⟩
    have B1 := hide hb1
    clear hb1
    go_wp2_with fail
    go_ret
    exact ⟨rfl, B1.out⟩
def awayI (ls : List (List En)) (D : Nat → Int) (P : Nat → List Int) (n : Nat) : List Int := if lacF ls D P n = 0 then awayE D n (allE ls) else []
def wholeB (ls : List (List En)) (D : Nat → Int) (P : Nat → List Int) (n : Nat) : Bool := decide (lacF ls D P n = 0 ∧ awayE D n (allE ls) = [])
theorem ent_digs {e : En} (hz : entFault e = 0) : ∀ d ∈ e.chunks, 0 ≤ d ∧ d ≤ 4294967295 := by
  intro d hc
  have hall : e.chunks.all isDig = true := by
    by_cases hx : e.chunks.all isDig = true
    · exact hx
    · exfalso
      unfold entFault at hz
      rw [if_neg hx] at hz
      split at hz
      · split at hz
        · split at hz
          · split at hz
            · omega
            · omega
          · omega
        · omega
      · contradiction
  have := List.all_eq_true.1 hall d hc
  simpa [isDig] using this
def AprtZ (a : Option Addr) (v : Value) : Prop := ∀ x, a = some x → ∀ g, v.ownBlock = some g → g ≠ x.block
theorem both_right {D : Nat → Int} {P : Nat → List Int} {n : Nat} {e : En} (hf : fault D P n = 0) (he : entFault e = 0) : both (fault D P n) e.chunks = 0 := by
  unfold both
  rw [if_pos hf]
  have h3 := entFault_chunks he
  have hd := ent_digs he
  unfold asked
  rw [if_neg (by omega)]
  refine firstBad_zero _ _ fun j _ hj => ?_
  have hm : e.chunks.getD j 0 ∈ e.chunks := getD_mem 0 (by omega)
  obtain ⟨h0, h1⟩ := hd _ hm
  exact digFault_ok rfl h0 h1
theorem ResI.of {q : Int} {zs : List Int} {w w3 : World} {B b n : Nat} {av : Option Addr} {cv : Nat} {u v : Value} (hB : b < B) (hw : w.heap.size ≤ b) (hn : n = zs.length) (hG : w3.ownsRow B 2 1 (.slice av n cv) n (zs.map (Value.int .i64))) (hb : Below w.heap.size w w3) :
    ResI q zs w (.returned (.agg #[.int .i64 q, .slice av n cv])) ((w3.setCell ⟨b, 0, none⟩ u).setCell ⟨b, 1, none⟩ v) := by
  subst hn
  refine ⟨av, cv, rfl, ?_, (hb.setCell hw _).setCell hw _⟩
  exact G1.mk (ownsRow_mono (ownsRow_kept (S := fun x => x = b) hG (Kept.two _ _ _ _ _ _) (fun x hx e => by have := (hG.lt x hx).1; omega)) (by omega)) rfl
set_option maxRecDepth 100000 in
set_option maxHeartbeats 6400000 in
theorem implAwayIn_any (a : Option Addr) (c m : Nat) (ls : List (List En)) (b : Option Addr) (d n : Nat) (D : Nat → Int) (P : Nat → List Int) (w : World) (h : RdL w a ls) (hm : m = ls.length) (hl : ls.length ≤ 1048576) (hs : SmallL ls) (hC : RdC w b D P n) (hn : n ≤ 1048576) (hP : ∀ i, i < n → U8 (P i) ∧ (P i).length ≤ 1048576) :
    Calls Tryz.prog 18 #[.slice a m c, .slice b n d] w (ResI (lacF ls D P n) (awayI ls D P n) w) := by
  subst hm
  obtain ⟨i1, ki, kz0, kz1, kz2⟩ := info_parts Tryz.infoI64
  have X0 := hide (Box.new w (.int .i64 0) (.slice none 0 0) 33)
  have B0 := hide (below_alloc w (.cells #[.int .i64 0, .slice none 0 0] 33))
  have HR := hide h
  have HSL := hide hs
  have HC := hide hC
  have HP := hide hP
  have HLF := hide (lacFault_any a c ls.length ls b d n D P _ (h.below B0.out) rfl hl hs (hC.below B0.out) hn hP)
  clear h hs hC hP
  by_cases hz : lacF ls D P n = 0
  · obtain ⟨hz1, hz2⟩ := lac_zero.1 hz
    obtain ⟨h4, hRs⟩ := layersP_zero.1 hz1
    have HAW := hide (show awayI ls D P n = awayE D n (allE ls) from by rw [awayI, if_pos hz])
    rw [hz] at HLF ⊢
    have HRr := hide hRs
    have HRs := hide (rights_sight hRs HSL.out)
    have HFT := hide hz2
    clear hz hRs hz1 hz2
    go_enter Tryz.func18, Tryz.ntmps18
    go_wp2_with fail
    refine HLF.out.mono ?_
    rintro r w1 ⟨rfl, hb1⟩
    have B1 := hide (below_next B0.out hb1)
    have X1 := hide (X0.out.below hb1)
    have hlt1 : w.heap.size < w1.heap.size := X1.out.1.lt
    clear hb1 X0 B0 HLF
    go_wp2_with fail
    refine (sightOf_any a c ls.length ls w1 (HR.out.below B1.out) rfl h4 HRs.out).mono ?_
    rintro r w2 ⟨bb, N, rfl, hbb, hN, hM, hb2⟩
    have HM := hide hM
    have BB2 := hide hb2
    clear hM hb2
    go_wp2_with fail
    refine (seen_any bb N (seeL ls) w1 w2 HM.out).mono ?_
    rintro r w3 ⟨b3, rfl, hb3b, hM3, hb3⟩
    have HM3 := hide hM3
    have BB3 := hide (below_next BB2.out hb3)
    clear hM3 hb3 HM BB2
    go_wp2_with fail
    refine (rising_any b3 N (leftS (seeL ls)) w1 w3 HM3.out (by omega) left_one BB3.out).mono ?_
    rintro r w4 ⟨av, cv, rs, rfl, hri, hmem, hRI, hb4⟩
    have RK := hide hRI
    have BB4 := hide (below_next BB3.out hb4)
    have hall := all_rise HRr.out h4 hri (fun e => (hmem e).trans (left_all HSL.out e))
    have HPL := hide (show awayI ls D P n = awayE D n rs from by
      rw [HAW.out, ← hall]
      exact awayE_chunks (map_asT_chunks rs))
    have HKM := hide (show ∀ e ∈ rs, entFault e = 0 from fun e he => by
      obtain ⟨k, s1, e1⟩ := (left_all HSL.out e).1 ((hmem e).1 he)
      obtain ⟨es, hes, hee, -⟩ := seeL_mem e1
      exact (HRr.out es hes).ent e hee)
    have HKC := hide (fun e (he : e ∈ rs) => entFault_chunks (HKM.out e he))
    have hkl : rs.length ≤ 48 := by
      have h1 := all_len HRr.out ls.length (Nat.le_refl _)
      rw [List.take_length] at h1
      have h2 := congrArg List.length hall
      rw [List.length_map] at h2
      omega
    have hs4 := BB4.out.size
    have BW4 := hide (below_next B1.out BB4.out)
    clear hri hmem hRI hb4 HM3 BB3 HAW hall
    go_wp2_with fail
    go_loopw [6, 8, 10, 23] (fun v _ _ i wr => ∃ k : Nat, k ≤ rs.length ∧ i = .int .i64 k ∧ Hid (wr.ownsRow w4.heap.size 2 1 v (awayE D n (rs.take k)).length ((awayE D n (rs.take k)).map (Value.int .i64))) ∧ Hid (Below w4.heap.size w4 wr)) (fun _ _ _ i _ => rs.length - (intOf i).toNat)
    case atStart => exact ⟨0, Nat.zero_le _, rfl, hide (by simpa [awayE] using World.ownsRow_nil _ _ _ _), hide (Below.refl _ _)⟩
    case round =>
      obtain ⟨k, hk, rfl, HO, HW⟩ := hrel
      obtain ⟨lv, lc, hv⟩ := ownsRow_shape HO.out
      subst hv
      by_cases hlt : k < rs.length
      · obtain ⟨bk, off, e, x, cc, rfl, hbk, he, c0, c1, c2, c3, hr⟩ := (RK.out.below HW.out).at hlt
        have hem := List.mem_of_getElem? he
        have hent := HKM.out e hem
        have h3c := HKC.out e hem
        have HTK := hide (awayE_take (D := D) (n := n) he)
        have hal := awayE_len (D := D) (n := n) (fun e he => HKC.out e he) k hk
        have BA := hide (below_alloc wr (.cells #[.int .i64 e.size, .slice x e.chunks.length cc, .string (str e.path), .int .i64 e.kind] 91))
        have BWA := hide (below_next HW.out BA.out)
        have HMI := hide (implMissingOf_ok b d n D P x cc e.chunks _ (HC.out.below (below_next BW4.out BWA.out)) hn HP.out (hr.below BA.out) (by omega) (both_right HFT.out hent))
        have HOA := hide (ownsRow_below HO.out BA.out)
        have hml := missE_len D n e
        unfold missE at HTK hml
        generalize awayE D n (rs.take k) = ms at *
        generalize miss D n e.chunks e.chunks.length = zs at *
        clear he hr hem hent HO
        go_wp2_with fail
        refine HMI.out.mono ?_
        rintro r w5 ⟨ga, gc, rfl, hg5, hb5⟩
        have HW5 := hide (below_next BWA.out hb5)
        have HO5 := hide (ownsRow_below HOA.out hb5)
        have HZ5 := hide (ownInts_reads hg5.1 rfl)
        have HAP5 := hide (show AprtZ ga (.slice lv ms.length lc) from fun x hx g hgv e9 => by
          have h1 := (HOA.out.lt g hgv).2
          have h2 := (hg5.1.lt x.block (by rw [hx]; rfl)).1
          omega)
        have hfd : ∀ u : World, (Instr.field 33 (.agg #[.int .i64 0, .slice ga zs.length gc]) 1).run Tryz.prog u = .ok (.slice ga zs.length gc) u := fun _ => by kernel_rfl
        clear hb5 hg5 HOA BA BWA HW HMI c0 c1 c2 c3
        go_wp2_with fail
        go_loopw [6, 10, 34] (fun v _ i wx => ∃ j : Nat, j ≤ zs.length ∧ i = .int .i64 j ∧ Hid (wx.ownsRow w4.heap.size 2 1 v (putsZ ms (zs.take j)).length ((putsZ ms (zs.take j)).map (Value.int .i64))) ∧ Hid (Below w4.heap.size w4 wx) ∧ Hid (Reads .i64 wx ga zs) ∧ Hid (AprtZ ga v) ∧ Hid (∀ x, zs ≠ [] → ga = some x → x.block < wx.heap.size)) (fun _ _ i _ => zs.length - (intOf i).toNat)
        case atStart => exact ⟨0, Nat.zero_le _, rfl, hide (by simpa [putsZ] using HO5.out), HW5, HZ5, hide (by simpa [putsZ] using HAP5.out), hide (fun x hz hx => HZ5.out.lt hz x hx)⟩
        case round =>
          clear HO5 HW5 HZ5 HAP5
          obtain ⟨j, hj, rfl, HOx, HWx, HZx, HAx, HLx⟩ := hrel
          obtain ⟨tv, tc, hv⟩ := ownsRow_shape HOx.out
          subst hv
          by_cases hlt2 : j < zs.length
          · obtain ⟨bz, oz, rfl, hbz, hcz⟩ := HZx.out (by intro e; simp [e] at hlt2)
            have hc1 := hcz j hlt2
            have HAT := hide (putsZ_take (o := ms) hlt2)
            have hxl := putsZ_len ms (zs.take j)
            have htl : (zs.take j).length ≤ j := List.length_take_le _ _
            generalize zs.getD j 0 = z at *
            generalize putsZ ms (zs.take j) = ys at *
            have hszx := HWx.out.size
            have RM := hide (ownsRow_own HOx.out rfl).reads
            have HCn := hide (slContains_any tv tc ys z wr RM.out (by omega))
            have hm1 : ys.length + 1 ≤ maxLen := by unfold maxLen; omega
            have hm2 : (ys.length + 1) * 8 ≤ 140737488355328 := by omega
            clear hcz
            cases hcn : ys.contains z with
            | true =>
              have HST := hide (HAT.out.trans (putZ_yes hcn))
              rw [hcn] at HCn
              clear hcn
              go_wp2_with fail
              refine HCn.out.mono ?_
              rintro r w6 ⟨rfl, rfl⟩
              go_wp2_with fail
              go_roundw
              case rel => exact ⟨j + 1, by omega, by go_num, by rw [HST.out]; exact HOx, HWx, HZx, HAx, HLx⟩
              case measure => simp [intOf]; omega
            | false =>
              have HST := hide (HAT.out.trans (putZ_no hcn))
              rw [hcn] at HCn
              clear hcn
              go_wp2_with fail
              refine HCn.out.mono ?_
              rintro r w6 ⟨rfl, rfl⟩
              go_wp2_with (at_builtin; refine wpList_append_one_at rfl (.tmp 42) (.tmp 44) 31 rfl w4.heap.size 2 i1 (.int .i64 0) 1 8 Tryz.underlying31 ki kz0 kz1 kz2 rfl (by decide) _ _ _ rfl HOx.out rfl rfl (by intro u hu; simp at hu; subst hu; rfl) hm1 hm2 hszx ?_; intro v' w7 hown7 hkept hat; have O7 := hide hown7; have K7 := hide hkept; have A7 := hide hat; clear hown7 hkept hat)
              go_roundw
              case rel =>
                refine ⟨j + 1, by omega, by go_num, by rw [HST.out]; exact hide (by simpa using O7.out), hide (Kept.below_own HWx.out hszx HOx.out K7.out), hide ?_, hide ?_, hide (fun x hz hx => Nat.lt_of_lt_of_le (HLx.out x hz hx) K7.out.size)⟩
                · exact HZx.out.kept K7.out (fun hz x hx e => HAx.out x hx _ e rfl)
                · intro x hx g hg e9
                  rcases A7.out with e | ⟨g2, e, hg2⟩
                  · exact HAx.out x hx g (e.symm.trans hg) e9
                  · rw [e] at hg
                    have := Option.some.inj hg
                    have := HLx.out x (by intro e; simp [e] at hlt2) hx
                    omega
              case measure => simp [intOf]; omega
          · have hje : zs.take j = zs := List.take_of_length_le (by omega)
            rw [hje] at HOx ⊢
            clear hje
            go_wp2_with fail
            go_roundw
            case rel => exact ⟨k + 1, by omega, by go_num, by rw [HTK.out]; exact HOx, HWx⟩
            case measure => simp [intOf]; omega
      · have hke : rs.take k = rs := List.take_of_length_le (by omega)
        rw [hke, ← HPL.out] at HO ⊢
        obtain ⟨ZS, hZS⟩ : ∃ ZS, ZS = awayI ls D P n := ⟨_, rfl⟩
        rw [← hZS] at HO ⊢
        have HZS := hide hZS
        clear hZS
        have BB5 := hide (below_next BB4.out HW.out)
        obtain ⟨⟨t0, t1⟩, t2, t3⟩ := X1.out.below BB5.out
        have B5 := hide (below_next B1.out BB5.out)
        clear hke
        go_wp2_with fail
        exact bodyPost_ret (v := .agg #[.int .i64 0, .slice lv ZS.length lc]) (by simp [results, Tryz.results18, go_sem, t0, t1]) rfl (by rw [← HZS.out]; exact ResI.of (B := w4.heap.size) (by omega) (Nat.le_refl _) rfl HO.out B5.out)
  · have HCC := hide (show awayI ls D P n = [] from by rw [awayI, if_neg hz])
    generalize lacF ls D P n = F at *
    have hz2 : (F != 0) = true := by simp; exact hz
    clear hz
    go_enter Tryz.func18, Tryz.ntmps18
    go_wp2_with fail
    refine HLF.out.mono ?_
    rintro r w1 ⟨rfl, hb1⟩
    have B1 := hide (below_next B0.out hb1)
    obtain ⟨⟨t0, t1⟩, t2, t3⟩ := X0.out.below hb1
    clear hb1
    go_wp2_with fail
    exact bodyPost_ret (v := .agg #[.int .i64 F, .slice none 0 0]) (by simp [results, Tryz.results18, go_sem, t0, t1]) rfl (by rw [HCC.out]; exact ResI.no ((B1.out.setCell (Nat.le_refl _) _).setCell (Nat.le_refl _) _))
set_option maxRecDepth 100000 in
set_option maxHeartbeats 1600000 in
theorem implIsWhole_any (a : Option Addr) (c m : Nat) (ls : List (List En)) (b : Option Addr) (d n : Nat) (D : Nat → Int) (P : Nat → List Int) (w : World) (h : RdL w a ls) (hm : m = ls.length) (hl : ls.length ≤ 1048576) (hs : SmallL ls) (hC : RdC w b D P n) (hn : n ≤ 1048576) (hP : ∀ i, i < n → U8 (P i) ∧ (P i).length ≤ 1048576) :
    Calls Tryz.prog 20 #[.slice a m c, .slice b n d] w fun e w' => e = .returned (.bool (wholeB ls D P n)) ∧ Below w.heap.size w w' := by
  subst hm
  have HA := hide (implAwayIn_any a c ls.length ls b d n D P w h rfl hl hs hC hn hP)
  by_cases hz : lacF ls D P n = 0
  · have HWB := hide (show wholeB ls D P n = decide ((awayI ls D P n).length = 0) from by unfold wholeB awayI; rw [if_pos hz, hz]; simp)
    rw [hz] at HA
    rw [HWB.out]
    clear h hs hC hP hz HWB
    generalize awayI ls D P n = zs at *
    by_cases hL : zs.length = 0
    · have hne : ((zs.length : Int) == 0) = true := by simp [hL]
      rw [decide_eq_true hL]
      clear hL
      go_enter Tryz.func20, Tryz.ntmps20
      go_wp2_with fail
      refine HA.out.mono ?_
      rintro r w1 ⟨ga, gc, rfl, hg, hb1⟩
      have B1 := hide hb1
      have A1 := hide (below_alloc w1 (.cells #[.int .i64 0, .slice ga zs.length gc] 33))
      obtain ⟨q0, q1⟩ := Two.new w1 (.int .i64 0) (.slice ga zs.length gc) 33
      clear hb1 hg HA
      go_wp2_with fail
      go_ret
      exact ⟨rfl, below_next B1.out A1.out⟩
    · have hne : ((zs.length : Int) == 0) = false := by rw [beq_eq_false_iff_ne]; omega
      rw [decide_eq_false hL]
      clear hL
      go_enter Tryz.func20, Tryz.ntmps20
      go_wp2_with fail
      refine HA.out.mono ?_
      rintro r w1 ⟨ga, gc, rfl, hg, hb1⟩
      have B1 := hide hb1
      have A1 := hide (below_alloc w1 (.cells #[.int .i64 0, .slice ga zs.length gc] 33))
      obtain ⟨q0, q1⟩ := Two.new w1 (.int .i64 0) (.slice ga zs.length gc) 33
      clear hb1 hg HA
      go_wp2_with fail
      go_ret
      exact ⟨rfl, below_next B1.out A1.out⟩
  · have HWB := hide (show wholeB ls D P n = false from by unfold wholeB; simp [hz])
    have HCC := hide (show awayI ls D P n = [] from by rw [awayI, if_neg hz])
    rw [HWB.out]
    rw [HCC.out] at HA
    generalize lacF ls D P n = F at *
    have hz2 : (F == 0) = false := by simpa using hz
    clear h hs hC hP hz HWB HCC
    go_enter Tryz.func20, Tryz.ntmps20
    go_wp2_with fail
    refine HA.out.mono ?_
    rintro r w1 ⟨ga, gc, rfl, hg, hb1⟩
    have B1 := hide hb1
    have A1 := hide (below_alloc w1 (.cells #[.int .i64 F, .slice ga 0 gc] 33))
    obtain ⟨q0, q1⟩ := Two.new w1 (.int .i64 F) (.slice ga 0 gc) 33
    clear hb1 hg HA
    go_wp2_with fail
    go_ret
    exact ⟨rfl, below_next B1.out A1.out⟩
end Go.Proofs.YtejipahfodhmjaaGreat

namespace Go.Proofs.YtejipahfodhmjaaGreat
open Go.RowKit Go.Maps
set_option linter.unusedVariables false
attribute [local go_sem ↓] Go.wp_at_zero Go.wp_at_succ

theorem plc_ask {es : List (List En)} {p : Bs} (h : plcC es p = 0) : askL es p = 0 := by
  unfold plcC at h
  by_cases h0 : askL es p = 0
  · exact h0
  · rw [if_neg h0] at h; exact h
theorem lookL_one {es : List (List En)} {p : Bs} (h : plcC es p = 0) : ∃ e, findE (allE es) p = some e ∧ lookL es p = [e] := by
  obtain ⟨h1, h2⟩ := look_all (plc_ask h)
  rw [h1] at h
  cases hf : findE (allE es) p with
  | none => rw [hf] at h; simp at h
  | some e => exact ⟨e, rfl, by rw [h2, hf]; rfl⟩
end Go.Proofs.YtejipahfodhmjaaGreat

namespace Go.Proofs.YtejipahfodhmjaaGreat
open Go.RowKit Go.Maps
set_option linter.unusedVariables false
attribute [local go_sem ↓] Go.wp_at_zero Go.wp_at_succ

def GW (B : Nat) (w : World) (v : Value) (es : List En) : Prop :=
  ∃ rs : List Rw, rs.map Rw.e = es ∧ w.ownsRow B 40 4 v es.length (rowR rs) ∧ ∀ r ∈ rs, w.ownsRow B 2 1 (.slice r.a r.e.chunks.length r.c) r.e.chunks.length (r.e.chunks.map (Value.int .i64))
end Go.Proofs.YtejipahfodhmjaaGreat

namespace Go.Proofs.YtejipahfodhmjaaGreat
open Go.RowKit Go.Maps
set_option linter.unusedVariables false
attribute [local go_sem ↓] Go.wp_at_zero Go.wp_at_succ

theorem saw_some {ls : List (List En)} {p : Bs} {e : En} (h4 : ls.length ≤ 4) (hR : ∀ es ∈ ls, Right es) (hp : faultP p = 0) (h : findE (allE ls) p = some e) : ∃ i f, seenL ls p = some i ∧ seeL ls i p = some f ∧ asT f = e := by
  rw [all_find (rights_fit hR) h4 hp, sawE] at h
  cases hs : seenL ls p with
  | none => rw [hs] at h; cases h
  | some i =>
    obtain ⟨-, f, hf, -⟩ := seen_some (show seenG (seeL ls) p 4 = some i from hs)
    rw [hs] at h
    simp [hf] at h
    exact ⟨i, f, rfl, hf, h⟩
theorem l8Look_yes (a : Option Addr) (c n : Nat) (ls : List (List En)) (p : Bs) (w : World) (h : RdL w a ls) (hn : n = ls.length) (h4 : ls.length ≤ 4) (hR : ∀ es ∈ ls, Right es) (hp : faultP p = 0) (hpl : p.length ≤ 1048576) (e : En) (hs : findE (allE ls) p = some e) :
    Calls Tryz.prog 77 #[.slice a n c, .string (str p)] w (LookYes e w) := by
  obtain ⟨i, f, h1, h2, h3⟩ := saw_some h4 hR hp hs
  have := l8Look_some a c n ls p w h hn h4 hR hp hpl i f h1 h2
  rwa [h3] at this
end Go.Proofs.YtejipahfodhmjaaGreat

namespace Go.Proofs.YtejipahfodhmjaaGreat
open Go.RowKit Go.Maps
set_option linter.unusedVariables false
attribute [local go_sem ↓] Go.wp_at_zero Go.wp_at_succ

theorem rights_good {ls : List (List En)} (h : ∀ es ∈ ls, Right es) : ∀ es ∈ ls, layFault es = layFaultP es := fun es he => by
  rw [right_P.2 (h es he), right_E.2 (h es he)]
theorem all_path_len {ls : List (List En)} (hR : ∀ es ∈ ls, Right es) (hs : SmallL ls) (h4 : ls.length ≤ 4) (e : En) (he : e ∈ allE ls) : e.path.length ≤ 1048576 := by
  have hF := rights_fit hR
  have hA := all_fit hF
  have hf := rise_find hA.fit.rise he
  rw [all_find hF h4 (hA.fit.path he)] at hf
  unfold sawE at hf
  cases hk : seenL ls e.path with
  | none => rw [hk] at hf; cases hf
  | some k =>
    rw [hk] at hf
    cases hs2 : seeL ls k e.path with
    | none => simp [hs2] at hf
    | some f =>
      obtain ⟨es, h1, h2, h3⟩ := seeL_mem hs2
      have := ((hs es h1).2 f h2).1
      rwa [h3] at this
set_option maxRecDepth 100000 in
set_option maxHeartbeats 800000 in
theorem l11Asked_ok (a : Option Addr) (c m : Nat) (ls : List (List En)) (b : Option Addr) (d n : Nat) (D : Nat → Int) (P : Nat → List Int) (w : World) (h : RdL w a ls) (hm : m = ls.length) (hl : ls.length ≤ 1048576) (hs : SmallL ls) (hg : ∀ es ∈ ls, layFault es = layFaultP es) (hC : RdC w b D P n) (hn : n ≤ 1048576) (hP : ∀ i, i < n → U8 (P i) ∧ (P i).length ≤ 1048576) :
    Calls Tryz.prog 58 #[.slice a m c, .slice b n d] w fun e w' => e = .returned (.int .i64 (lacF ls D P n)) ∧ Below w.heap.size w w' := by
  subst hm
  have HLF := hide (specLayersFault_any a c ls.length ls w h rfl hl hs hg)
  have HCF := hide (fun (u : World) (hu : Below w.heap.size w u) => specFault_any b d n D P u (hC.below hu) hn hP)
  unfold lacF
  clear h hC hP hs hg
  by_cases hz : layersP ls = 0
  · rw [hz] at HLF
    rw [if_pos hz]
    generalize fault D P n = F at *
    clear hz
    go_enter Tryz.func58, Tryz.ntmps58
    go_wp2_with fail
    refine HLF.out.mono ?_
    rintro r w1 ⟨rfl, hb1⟩
    have B1 := hide hb1
    clear hb1
    go_wp2_with fail
    refine (HCF.out _ B1.out).mono ?_
    rintro r w2 ⟨rfl, hb2⟩
    have B2 := hide (below_next B1.out hb2)
    clear hb2
    go_wp2_with fail
    go_ret
    exact ⟨rfl, B2.out⟩
  · rw [if_neg hz]
    generalize layersP ls = F at *
    have hz2 : (F != 0) = true := by simp; exact hz
    clear hz
    go_enter Tryz.func58, Tryz.ntmps58
    go_wp2_with fail
    refine HLF.out.mono ?_
    rintro r w1 ⟨rfl, hb1⟩
    have B1 := hide hb1
    clear hb1
    go_wp2_with fail
    go_ret
    exact ⟨rfl, B1.out⟩
set_option maxRecDepth 100000 in
set_option maxHeartbeats 6400000 in
theorem l11Away_any (a : Option Addr) (c m : Nat) (ls : List (List En)) (b : Option Addr) (d n : Nat) (D : Nat → Int) (P : Nat → List Int) (w : World) (h : RdL w a ls) (hm : m = ls.length) (hs : SmallL ls) (hC : RdC w b D P n) (hn : n ≤ 1048576) (hz : layersP ls = 0) :
    Calls Tryz.prog 59 #[.slice a m c, .slice b n d] w fun e w' => ∃ v, e = .returned v ∧ w'.ownsRow w.heap.size 2 1 v (awayE D n (allE ls)).length ((awayE D n (allE ls)).map (Value.int .i64)) ∧ Below w.heap.size w w' := by
  subst hm
  obtain ⟨i1, ki, kz0, kz1, kz2⟩ := info_parts Tryz.infoI64
  obtain ⟨h4, hRs⟩ := layersP_zero.1 hz
  have hF := all_fit (rights_fit hRs)
  have hAl : (allE ls).length ≤ 48 := by
    have h1 := all_len hRs ls.length (Nat.le_refl _)
    rw [List.take_length] at h1
    omega
  have HFit := hide hF
  have HR := hide h
  have HC := hide hC
  have HRr := hide hRs
  have HKC := hide (fun e (he : e ∈ allE ls) => entFault_chunks (hF.fit.ent e he))
  have B0 := hide (below_alloc w (.cells #[] 2))
  have O0 := hide (show (w.alloc (.cells #[] 2)).ownsRow w.heap.size 2 1 (.slice (some ⟨w.heap.size, 0, none⟩) 0 0) 0 [] from World.ownsRow_made w #[] 0 (Nat.le_refl _) (Nat.zero_le _) rfl)
  have HPO := hide (specPathsOver_any a c ls.length ls _ (h.below B0.out) rfl (by omega) hs (rights_good hRs))
  have HLY := hide (fun (u : World) (hu : Below w.heap.size w u) (p : Bs) (hp : faultP p = 0) (hpl : p.length ≤ 1048576) (e : En) (he : findE (allE ls) p = some e) => l8Look_yes a c ls.length ls p u (h.below hu) rfl h4 hRs hp hpl e he)
  rw [pthL, if_pos hz, hz] at HPO
  have HEL := hide (fun e (he : e ∈ allE ls) => all_path_len hRs hs h4 e he)
  clear h hC hs hRs hF hz
  generalize allE ls = T at *
  go_enter Tryz.func59, Tryz.ntmps59
  go_wp2_with fail
  refine HPO.out.mono ?_
  rintro r w1 ⟨pa, pc, rfl, hO1, hb1⟩
  have RN := hide hO1
  unfold OwnS at RN
  have B1 := hide (below_next B0.out hb1)
  have O1 := hide (ownsRow_below O0.out hb1)
  have hln : (T.map En.path).length = T.length := by rw [List.length_map]
  rw [hln] at RN ⊢
  have hfd : ∀ u : World, (Instr.field 52 (.agg #[.int .i64 0, .slice pa T.length pc]) 1).run Tryz.prog u = .ok (.slice pa T.length pc) u := fun _ => by kernel_rfl
  have RN2 := hide (ownsRow_mono RN.out (show w.heap.size ≤ (w.alloc (.cells #[] 2)).heap.size from B0.out.size))
  clear hO1 hb1 hln HPO RN
  go_wp2_with fail
  go_loopw [5, 7, 8, 9, 10, 11] (fun v i _ _ _ _ wr => ∃ k : Nat, k ≤ T.length ∧ i = .int .i64 k ∧ Hid (wr.ownsRow w.heap.size 2 1 v (awayE D n (T.take k)).length ((awayE D n (T.take k)).map (Value.int .i64))) ∧ Hid (Below w.heap.size w wr) ∧ Hid (wr.ownsRow w.heap.size 9 1 (.slice pa T.length pc) T.length ((T.map En.path).map vS))) (fun _ i _ _ _ _ _ => T.length - (intOf i).toNat)
  case atStart => exact ⟨0, Nat.zero_le _, rfl, hide (by simpa [awayE] using O1.out), B1, RN2⟩
  case round =>
    clear RN2 O1 B1
    obtain ⟨k, hk, rfl, HO, HW, HN⟩ := hrel
    obtain ⟨lv, lc, hv⟩ := ownsRow_shape HO.out
    subst hv
    by_cases hlt : k < T.length
    · have he : T[k]? = some (T[k]'hlt) := List.getElem?_eq_getElem hlt
      generalize T[k]'hlt = e at he
      have hem := List.mem_of_getElem? he
      have hent := HFit.out.fit.ent e hem
      have hpe := HFit.out.fit.path hem
      have hpl := HEL.out e hem
      have h3c := HKC.out e hem
      have HTK := hide (awayE_take (D := D) (n := n) he)
      have hal := awayE_len (D := D) (n := n) (fun e he => HKC.out e he) k hk
      obtain ⟨bn, hpa, hbn, hcn⟩ : ∃ bn, pa = some ⟨bn, 0, none⟩ ∧ bn < wr.heap.size ∧ wr.cell? ⟨bn, k, none⟩ = some (.string (str e.path)) := by
        rcases HN.out.2 with ⟨h', h0⟩ | ⟨g, cap, cur, h', hb, hgb, hx⟩
        · omega
        · simp only [Value.slice.injEq] at h'
          obtain ⟨rfl, -, rfl⟩ := h'
          refine ⟨g, rfl, (Array.getElem?_eq_some_iff.1 hgb).1, ?_⟩
          have := HN.out.cellAt k (by omega)
          rw [this, List.getElem?_map, List.getElem?_map, he]; rfl
      subst hpa
      have HLK := hide (HLY.out wr HW.out e.path hpe hpl e (rise_find HFit.out.fit.rise hem))
      have hml := missE_len D n e
      unfold missE at HTK hml
      generalize awayE D n (T.take k) = ms at *
      generalize hzs : miss D n e.chunks e.chunks.length = zs at *
      have HZS := hide hzs
      clear hzs he hem hent hpe
      have hk0 : (0 : Int) ≤ (k : Int) := by omega
      have hk1 : (k : Int) < (T.length : Int) := by omega
      go_wp2_with fail
      refine HLK.out.mono ?_
      rintro r w2 ⟨x, cc, rfl, hown2, hb2⟩
      have A2 := hide (below_alloc w2 (.cells #[.string (str e.path), .int .i64 e.kind, .int .i64 e.size, .slice x e.chunks.length cc] 40))
      have F2 := hide (Four.new w2 (.string (str e.path)) (.int .i64 e.kind) (.int .i64 e.size) (.slice x e.chunks.length cc) 40)
      have BB2 := hide (below_next hb2 A2.out)
      have R2 := hide ((ownInts_reads hown2 rfl).below A2.out)
      have HW2 := hide (below_next HW.out BB2.out)
      have HO2 := hide (ownsRow_below HO.out BB2.out)
      have HN2 := hide (ownsRow_below HN.out BB2.out)
      have HMI := hide (l2Missing_any b d n D P x cc e.chunks _ (HC.out.below HW2.out) hn R2.out h3c)
      rw [HZS.out] at HMI
      have hs2 : w2.heap.size + 1 = (w2.alloc (.cells #[.string (str e.path), .int .i64 e.kind, .int .i64 e.size, .slice x e.chunks.length cc] 40)).heap.size := by simp
      clear hown2 hb2 HO HW HN HLK hcn BB2 R2 A2
      obtain ⟨t0, t1, t2, t3⟩ := F2.out
      go_wp2_with fail
      clear t0 t1 t2 t3 F2
      generalize w2.alloc (.cells #[.string (str e.path), .int .i64 e.kind, .int .i64 e.size, .slice x e.chunks.length cc] 40) = W2 at *
      refine HMI.out.mono ?_
      rintro r w5 ⟨v5, rfl, hg5, hb5⟩
      obtain ⟨ga, gc, hv5⟩ := ownsRow_shape hg5
      subst hv5
      have HW5 := hide (below_next HW2.out hb5)
      have HO5 := hide (ownsRow_below HO2.out hb5)
      have HN5 := hide (ownsRow_below HN2.out hb5)
      have HZ5 := hide (ownInts_reads hg5 rfl)
      have HAP5 := hide (show AprtZ ga (.slice lv ms.length lc) from fun y hy g hgv e9 => by
        have h1 := (HO2.out.lt g hgv).2
        have h2 := (hg5.lt y.block (by rw [hy]; rfl)).1
        omega)
      clear hb5 hg5 HO2 HW2 HN2 HMI hs2
      go_wp2_with fail
      go_loopw [5, 11] (fun v i wx => ∃ j : Nat, j ≤ zs.length ∧ i = .int .i64 j ∧ Hid (wx.ownsRow w.heap.size 2 1 v (putsZ ms (zs.take j)).length ((putsZ ms (zs.take j)).map (Value.int .i64))) ∧ Hid (Below w.heap.size w wx) ∧ Hid (Reads .i64 wx ga zs) ∧ Hid (AprtZ ga v) ∧ Hid (∀ x, zs ≠ [] → ga = some x → x.block < wx.heap.size) ∧ Hid (wx.ownsRow w.heap.size 9 1 (.slice (some ⟨bn, 0, none⟩) T.length pc) T.length ((T.map En.path).map vS))) (fun _ i _ => zs.length - (intOf i).toNat)
      case atStart => exact ⟨0, Nat.zero_le _, rfl, hide (by simpa [putsZ] using HO5.out), HW5, HZ5, hide (by simpa [putsZ] using HAP5.out), hide (fun x hz hx => HZ5.out.lt hz x hx), HN5⟩
      case round =>
        clear HO5 HW5 HZ5 HAP5 HN5
        obtain ⟨j, hj, rfl, HOx, HWx, HZx, HAx, HLx, HNx⟩ := hrel
        obtain ⟨tv, tc, hv⟩ := ownsRow_shape HOx.out
        subst hv
        by_cases hlt2 : j < zs.length
        · obtain ⟨bz, oz, rfl, hbz, hcz⟩ := HZx.out (by intro e; simp [e] at hlt2)
          have hc1 := hcz j hlt2
          have HAT := hide (putsZ_take (o := ms) hlt2)
          have hxl := putsZ_len ms (zs.take j)
          have htl : (zs.take j).length ≤ j := List.length_take_le _ _
          generalize zs.getD j 0 = z at *
          generalize putsZ ms (zs.take j) = ys at *
          have hszx := HWx.out.size
          have RM := hide (ownsRow_own HOx.out rfl).reads
          have HCn := hide (l2Among_any tv tc ys z wr RM.out (by omega))
          have hm1 : ys.length + 1 ≤ maxLen := by unfold maxLen; omega
          have hm2 : (ys.length + 1) * 8 ≤ 140737488355328 := by omega
          have hj0 : (0 : Int) ≤ (j : Int) := by omega
          have hj1 : (j : Int) < (zs.length : Int) := by omega
          clear hcz
          cases hcn : ys.contains z with
          | true =>
            have HST := hide (HAT.out.trans (putZ_yes hcn))
            rw [hcn] at HCn
            clear hcn
            go_wp2_with fail
            refine HCn.out.mono ?_
            rintro r w6 ⟨rfl, rfl⟩
            go_wp2_with fail
            go_roundw
            case rel => exact ⟨j + 1, by omega, by go_num, by rw [HST.out]; exact HOx, HWx, HZx, HAx, HLx, HNx⟩
            case measure => simp [intOf]; omega
          | false =>
            have HST := hide (HAT.out.trans (putZ_no hcn))
            rw [hcn] at HCn
            clear hcn
            go_wp2_with fail
            refine HCn.out.mono ?_
            rintro r w6 ⟨rfl, rfl⟩
            go_wp2_with (at_builtin; refine wpList_append_one_at rfl (.tmp 48) (.tmp 53) 31 rfl w.heap.size 2 i1 (.int .i64 0) 1 8 Tryz.underlying31 ki kz0 kz1 kz2 rfl (by decide) _ _ _ rfl HOx.out rfl rfl (by intro u hu; simp at hu; subst hu; rfl) hm1 hm2 hszx ?_; intro v' w7 hown7 hkept hat; have O7 := hide hown7; have K7 := hide hkept; have A7 := hide hat; clear hown7 hkept hat)
            go_roundw
            case rel =>
              refine ⟨j + 1, by omega, by go_num, by rw [HST.out]; exact hide (by simpa using O7.out), hide (Kept.below_own HWx.out hszx HOx.out K7.out), hide ?_, hide ?_, hide (fun x hz hx => Nat.lt_of_lt_of_le (HLx.out x hz hx) K7.out.size), hide (ownsRow_kept HNx.out K7.out (fun g hg hS => ownsRow_apart HOx.out HNx.out (by decide) hS hg))⟩
              · exact HZx.out.kept K7.out (fun hz x hx e => HAx.out x hx _ e rfl)
              · intro x hx g hg e9
                rcases A7.out with e | ⟨g2, e, hg2⟩
                · exact HAx.out x hx g (e.symm.trans hg) e9
                · rw [e] at hg
                  have := Option.some.inj hg
                  have := HLx.out x (by intro e; simp [e] at hlt2) hx
                  omega
            case measure => simp [intOf]; omega
        · have hje : zs.take j = zs := List.take_of_length_le (by omega)
          rw [hje] at HOx ⊢
          clear hje
          go_wp2_with fail
          go_roundw
          case rel => exact ⟨k + 1, by omega, by go_num, by rw [HTK.out]; exact HOx, HWx, HNx⟩
          case measure => simp [intOf]; omega
    · have hke : T.take k = T := List.take_of_length_le (by omega)
      rw [hke] at HO ⊢
      clear hke
      go_wp2_with fail
      go_ret
      exact ⟨_, rfl, HO.out, HW.out⟩
set_option maxRecDepth 100000 in
set_option maxHeartbeats 1600000 in
theorem specAwayIn_any (a : Option Addr) (c m : Nat) (ls : List (List En)) (b : Option Addr) (d n : Nat) (D : Nat → Int) (P : Nat → List Int) (w : World) (h : RdL w a ls) (hm : m = ls.length) (hl : ls.length ≤ 1048576) (hs : SmallL ls) (hg : ∀ es ∈ ls, layFault es = layFaultP es) (hC : RdC w b D P n) (hn : n ≤ 1048576) (hP : ∀ i, i < n → U8 (P i) ∧ (P i).length ≤ 1048576) :
    Calls Tryz.prog 19 #[.slice a m c, .slice b n d] w (ResI (lacF ls D P n) (awayI ls D P n) w) := by
  subst hm
  have X0 := hide (Box.new w (.int .i64 0) (.slice none 0 0) 33)
  have B0 := hide (below_alloc w (.cells #[.int .i64 0, .slice none 0 0] 33))
  have HLF := hide (l11Asked_ok a c ls.length ls b d n D P _ (h.below B0.out) rfl hl hs hg (hC.below B0.out) hn hP)
  by_cases hz : lacF ls D P n = 0
  · have HAW := hide (show awayI ls D P n = awayE D n (allE ls) from by rw [awayI, if_pos hz])
    have HLW := hide (fun (u : World) (hu : Below w.heap.size w u) => l11Away_any a c ls.length ls b d n D P u (h.below hu) rfl hs (hC.below hu) hn (lac_zero.1 hz).1)
    rw [hz] at HLF ⊢
    rw [HAW.out]
    clear h hs hg hC hP hz HAW
    generalize awayE D n (allE ls) = zs at *
    go_enter Tryz.func19, Tryz.ntmps19
    go_wp2_with fail
    refine HLF.out.mono ?_
    rintro r w1 ⟨rfl, hb1⟩
    have B1 := hide (below_next B0.out hb1)
    have X1 := hide (X0.out.below hb1)
    have hlt1 : w.heap.size < w1.heap.size := X1.out.1.lt
    clear hb1 X0 B0 HLF
    go_wp2_with fail
    refine (HLW.out w1 B1.out).mono ?_
    rintro r w2 ⟨v2, rfl, hO2, hb2⟩
    obtain ⟨ga, gc, hv2⟩ := ownsRow_shape hO2
    subst hv2
    have B2 := hide (below_next B1.out hb2)
    have O2 := hide hO2
    obtain ⟨⟨t0, t1⟩, t2, t3⟩ := X1.out.below hb2
    clear hO2 hb2 HLW
    go_wp2_with fail
    exact bodyPost_ret (v := .agg #[.int .i64 0, .slice ga zs.length gc]) (by simp [results, Tryz.results19, go_sem, t0, t1]) rfl (ResI.of hlt1 (Nat.le_refl _) rfl O2.out B2.out)
  · have HCC := hide (show awayI ls D P n = [] from by rw [awayI, if_neg hz])
    generalize lacF ls D P n = F at *
    have hz2 : (F != 0) = true := by simp; exact hz
    clear hz h hs hg hC hP
    go_enter Tryz.func19, Tryz.ntmps19
    go_wp2_with fail
    refine HLF.out.mono ?_
    rintro r w1 ⟨rfl, hb1⟩
    have B1 := hide (below_next B0.out hb1)
    obtain ⟨⟨t0, t1⟩, t2, t3⟩ := X0.out.below hb1
    clear hb1
    go_wp2_with fail
    exact bodyPost_ret (v := .agg #[.int .i64 F, .slice none 0 0]) (by simp [results, Tryz.results19, go_sem, t0, t1]) rfl (by rw [HCC.out]; exact ResI.no ((B1.out.setCell (Nat.le_refl _) _).setCell (Nat.le_refl _) _))
end Go.Proofs.YtejipahfodhmjaaGreat

namespace Go.Proofs.YtejipahfodhmjaaGreat
open Go.RowKit Go.Maps
set_option linter.unusedVariables false
attribute [local go_sem ↓] Go.wp_at_zero Go.wp_at_succ

theorem OwnS.keptP {p B : Nat} {w w' : World} {v : Value} {ns : List Bs} (h : OwnS B w v ns) (hk : Kept (fun b => b = p) w w') (hp : p < B) : OwnS B w' v ns := h.kept hk (fun g hg e => by have := (h.lt g hg).1; omega)
def GoodLs (ls : List (List En)) : Prop := ls.length ≤ 5 ∧ SmallL ls ∧ ∀ es ∈ ls, es.length ≤ 13 ∧ layFault es = layFaultP es
theorem goodLs_of {rs : List Ly} (h5 : rs.length ≤ 5) (h : ∀ x ∈ rs, GoodH x.es ∧ x.es.length ≤ 13 ∧ SmallE x.es) : GoodLs (rs.map Ly.es) := by
  refine ⟨by rw [List.length_map]; exact h5, fun es he => ?_, fun es he => ?_⟩
  · obtain ⟨x, hx, rfl⟩ := List.mem_map.1 he
    obtain ⟨_, h2, h3⟩ := h x hx
    exact ⟨by omega, h3⟩
  · obtain ⟨x, hx, rfl⟩ := List.mem_map.1 he
    obtain ⟨h1, h2, _⟩ := h x hx
    exact ⟨h2, h1.good.symm⟩
end Go.Proofs.YtejipahfodhmjaaGreat

