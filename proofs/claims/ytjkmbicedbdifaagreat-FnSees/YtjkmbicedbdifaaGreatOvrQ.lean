/-
  The model's PathsOver: names that are paths of entries.
-/
import Derived.Test.YtjkmbicedbdifaaGreatOvrO
import Derived.Test.YtjkmbicedbdifaaGreatOvrA
namespace Go.Proofs.YtjkmbicedbdifaaGreat
open Go.RowKit Go.Maps
set_option linter.unusedVariables false
attribute [local go_sem ↓] Go.wp_at_zero Go.wp_at_succ

/-- What is known of the names. -/
def PathNs (ns : List Bs) : Prop := ns.length ≤ 60 ∧ ∀ x ∈ ns, faultP x = 0 ∧ x.length ≤ 1048576
theorem PathNs.put {ns : List Bs} {p : Bs} {k : Nat} (h : ∀ x ∈ ns, faultP x = 0 ∧ x.length ≤ 1048576) (hp : faultP p = 0) (hl : p.length ≤ 1048576) : ∀ x ∈ putS ns p, faultP x = 0 ∧ x.length ≤ 1048576 := fun x hx => by
  rcases mem_putS.1 hx with rfl | hx
  · exact ⟨hp, hl⟩
  · exact h x hx
theorem box_set1 {w : World} {b : Nat} {u v : Value} (h : Box w b u v) (v' : Value) : Box (w.setCell ⟨b, 1, none⟩ v') b u v' :=
  ⟨⟨by rw [cell_set_other (by simp)]; exact h.1.1, cell_set_same h.1.2⟩, by rw [World.frozen?_setCell]; exact h.2.1, by rw [World.frozen?_setCell]; exact h.2.2⟩
set_option maxRecDepth 100000 in
set_option maxHeartbeats 6400000 in
theorem specPathsOver_names (a : Option Addr) (c n : Nat) (ls : List (List En)) (w : World) (h : RdL w a ls) (hn : n = ls.length) (hl : ls.length ≤ 1048576) (hs : SmallL ls) (hg : ∀ es ∈ ls, layFault es = layFaultP es) :
    Calls Tryz.prog 9 #[.slice a n c] w fun r w' => ∃ av cv ns, r = .returned (.agg #[.int .i64 (layersP ls), .slice av ns.length cv]) ∧ OwnS w.heap.size w' (.slice av ns.length cv) ns ∧ PathNs ns ∧ Below w.heap.size w w' := by
  subst hn
  have X0 := hide (Box.new w (.int .i64 0) (.slice none 0 0) 28)
  have B0 := hide (below_alloc w (.cells #[.int .i64 0, .slice none 0 0] 28))
  have HLF := hide (specLayersFault_any a c ls.length ls _ (h.below B0.out) rfl hl hs hg)
  have HR := hide h
  clear h hs hg
  by_cases hz : layersP ls = 0
  · obtain ⟨h4, hRs⟩ := layersP_zero.1 hz
    rw [hz] at HLF ⊢
    have HRi := hide hRs
    clear hz hRs
    go_enter Tryz.func9, Tryz.ntmps9
    go_wp2_with fail
    refine HLF.out.mono ?_
    rintro r w1 ⟨rfl, hb1⟩
    have B1 := hide (below_next B0.out hb1)
    have X1 := hide (X0.out.below hb1)
    have BB := hide (below_next B1.out (below_alloc w1 (.cells #[.int .i64 0, .slice none 0 0] 28)))
    have XO := hide (Box.new w1 (.int .i64 0) (.slice none 0 0) 28)
    have X2 := hide (X1.out.below (below_alloc w1 (.cells #[.int .i64 0, .slice none 0 0] 28)))
    have hlt1 : w.heap.size < w1.heap.size := X1.out.1.lt
    have hsz2 : (w1.alloc (.cells #[.int .i64 0, .slice none 0 0] 28)).heap.size = w1.heap.size + 1 := by simp
    clear hb1 X0 B0 HLF B1 X1
    obtain ⟨⟨t0, t1⟩, t2, t3⟩ := XO.out
    go_wp2_with fail
    clear t0 t1 t2 t3
    generalize w1.alloc (.cells #[.int .i64 0, .slice none 0 0] 28) = W2 at *
    generalize w1.heap.size = bO at *
    go_loopw [5] (fun i wr => ∃ (k m : Nat) (av : Option Addr) (cv : Nat) (ns : List Bs), k ≤ ls.length ∧ i = .int .i64 k ∧ ns.length ≤ m ∧ m ≤ 12 * k ∧ Hid (Box wr bO (.int .i64 0) (.slice av ns.length cv)) ∧ Hid (OwnS (bO + 1) wr (.slice av ns.length cv) ns) ∧ Hid (∀ x ∈ ns, faultP x = 0 ∧ x.length ≤ 1048576) ∧ Hid (Below w.heap.size w wr) ∧ Hid (Box wr w.heap.size (.int .i64 0) (.slice none 0 0)) ∧ bO < wr.heap.size) (fun i _ => ls.length - (intOf i).toNat)
    case atStart => exact ⟨0, 0, none, 0, [], Nat.zero_le _, rfl, Nat.zero_le _, Nat.zero_le _, XO, hide (OwnS.nil _ _), hide (by simp), BB, X2, by omega⟩
    case round =>
      obtain ⟨k, m, av, cv, ns, hk, rfl, hnm, hm, HX, HO, HN, HW, HZ, hbw⟩ := hrel
      by_cases hlt : k < ls.length
      · obtain ⟨b, off, es, x, cc, rfl, hb, he, c0, hr⟩ := HR.out.at hlt
        have hRi := HRi.out es (List.mem_of_getElem? he)
        have hel := hRi.len
        have HRE := hide hr
        have HRI := hide hRi
        have HSM := hide (right_small hRi)
        have KC : Hid (∀ w', Below w.heap.size w w' → w'.cell? ⟨b, off + k, none⟩ = some (.slice x es.length cc)) := hide (fun w' hb' => (hb'.cell (p := ⟨b, off + k, none⟩) hb).trans c0)
        have hk0 : (0 : Int) ≤ (k : Int) := by omega
        have hk1 : (k : Int) < (ls.length : Int) := by omega
        clear hr hRi he c0
        go_wp2_with fail
        go_loopw [6] (fun i wx => ∃ (j m : Nat) (av : Option Addr) (cv : Nat) (ns : List Bs), j ≤ es.length ∧ i = .int .i64 j ∧ ns.length ≤ m ∧ m ≤ 12 * k + j ∧ Hid (Box wx bO (.int .i64 0) (.slice av ns.length cv)) ∧ Hid (OwnS (bO + 1) wx (.slice av ns.length cv) ns) ∧ Hid (∀ x ∈ ns, faultP x = 0 ∧ x.length ≤ 1048576) ∧ Hid (Below w.heap.size w wx) ∧ Hid (Box wx w.heap.size (.int .i64 0) (.slice none 0 0)) ∧ bO < wx.heap.size) (fun i _ => es.length - (intOf i).toNat)
        case atStart => exact ⟨0, m, av, cv, ns, Nat.zero_le _, rfl, hnm, by omega, HX, HO, HN, HW, HZ, hbw⟩
        case round =>
          clear HX HO HN HW HZ hbw hnm hm
          obtain ⟨j, m, av, cv, ns, hj, rfl, hnm, hm, HX, HO, HN, HW, HZ, hbw⟩ := hrel
          have c0 := KC.out _ HW.out
          by_cases hlt2 : j < es.length
          · obtain ⟨bb, off2, e, y, yc, hxe, hbb, he, z0, z1, z2, z3, hrc⟩ := HRE.out.at hlt2
            subst hxe
            have hpf := entFault_zero (HRI.out.ent e (List.mem_of_getElem? he))
            have hsm := HSM.out e (List.mem_of_getElem? he)
            have KE : Hid (∀ w', Below w.heap.size w w' → w'.cell? ⟨bb, off2 + j * 4, none⟩ = some (.string (str e.path))) := hide (fun w' hb' => (hb'.cell (p := ⟨bb, off2 + j * 4, none⟩) hbb).trans z0)
            have e0 := KE.out _ HW.out
            have HPL := hide (l8Place_any (some ⟨b, off, none⟩) c ls.length ls e.path wr (HR.out.below HW.out) rfl h4 HRi.out hpf hsm.1)
            have hj0 : (0 : Int) ≤ (j : Int) := by omega
            have hj1 : (j : Int) < (es.length : Int) := by omega
            have HPF := hide hpf
            clear he hrc z0 z1 z2 z3 hpf
            obtain ⟨LN, hLN⟩ : ∃ LN, LN = ns.length := ⟨_, rfl⟩
            rw [← hLN] at HX HO hnm
            have HLN := hide hLN
            clear hLN
            cases hsn : seenL ls e.path with
            | none =>
              rw [hsn, show placeI none = -1 from rfl] at HPL
              clear hsn
              go_wp2_with fail
              refine HPL.out.mono ?_
              rintro r w3 ⟨rfl, hb3⟩
              have HX3 := hide (HX.out.below hb3)
              have HO3 := hide (HO.out.below hb3)
              have HW3 := hide (below_next HW.out hb3)
              have HZ3 := hide (HZ.out.below hb3)
              have hb3s := hb3.size
              clear hb3 HX HO HW HZ HPL c0 e0
              go_wp2_with fail
              go_roundw
              case rel =>
                have e9 := HLN.out
                subst e9
                exact ⟨j + 1, m, av, cv, ns, by omega, by go_num, hnm, by omega, HX3, HO3, HN, HW3, HZ3, by omega⟩
              case measure => simp [intOf]; omega
            | some q =>
              rw [hsn, show placeI (some q) = (q : Int) from rfl] at HPL
              clear hsn
              have hq0 : (0 : Int) ≤ (q : Int) := by omega
              go_wp2_with fail
              refine HPL.out.mono ?_
              rintro r w3 ⟨rfl, hb3⟩
              have HX3 := hide (HX.out.below hb3)
              have HO3 := hide (HO.out.below hb3)
              have HW3 := hide (below_next HW.out hb3)
              have HZ3 := hide (HZ.out.below hb3)
              have hb3s := hb3.size
              clear hb3 HX HO HW HZ HPL c0 e0
              have HIN := hide (l8In_any av cv LN ns e.path w3 HO3.out.reads HLN.out (by rw [← HLN.out]; omega))
              obtain ⟨⟨t0, t1⟩, t2, t3⟩ := HX3.out
              by_cases hmm : e.path ∈ ns
              · rw [decide_eq_true hmm] at HIN
                clear hmm
                go_wp2_with fail
                refine HIN.out.mono ?_
                rintro r w4 ⟨rfl, hw4⟩
                have hw5 := hw4.symm
                clear hw4
                subst hw5
                go_wp2_with fail
                go_roundw
                case rel =>
                  have e9 := HLN.out
                  subst e9
                  exact ⟨j + 1, m, av, cv, ns, by omega, by go_num, hnm, by omega, HX3, HO3, HN, HW3, HZ3, by omega⟩
                case measure => simp [intOf]; omega
              · rw [decide_eq_false hmm] at HIN
                clear hmm
                have HPU := hide (l8Put_any av cv LN ns e.path w3 HO3.out HLN.out (by rw [← HLN.out]; omega))
                go_wp2_with fail
                refine HIN.out.mono ?_
                rintro r w4 ⟨rfl, hw4⟩
                have hw5 := hw4.symm
                clear hw4
                subst hw5
                go_wp2_with fail
                refine HPU.out.mono ?_
                rintro r w6 ⟨av6, cv6, rfl, hO6, hb6⟩
                have HX6 := hide (HX3.out.below hb6)
                have HW6 := hide (below_next HW3.out hb6)
                have HZ6 := hide (HZ3.out.below hb6)
                have O6 := hide hO6
                have HPN := hide (PathNs.put (k := 0) HN.out HPF.out hsm.1)
                have HL6 := hide (putS_len ns e.path)
                have hb6s := hb6.size
                clear hO6 hb6 t0 t1 t2 t3
                obtain ⟨⟨t0, t1⟩, t2, t3⟩ := HX6.out
                generalize putS ns e.path = ns6 at *
                clear HPU HIN
                go_wp2_with fail
                go_roundw
                case rel =>
                  have e9 := HLN.out
                  have e8 := HL6.out
                  refine ⟨j + 1, m + 1, av6, cv6, ns6, by omega, by go_num, by omega, by omega, hide ?_, hide ?_, HPN, hide ?_, hide ?_, by simp [World.setCell]; omega⟩
                  · exact box_set1 HX6.out _
                  · exact (O6.out.mono (by omega)).kept (Kept.setCell (S := fun b => b = bO) (p := ⟨bO, 1, none⟩) (Kept.refl _ w6) (fun _ => rfl) _) (fun g hg hS => by have := (O6.out.lt g hg).1; omega)
                  · exact HW6.out.setCell (p := ⟨bO, 1, none⟩) (by show w.heap.size ≤ bO; omega) _
                  · exact HZ6.out.kept (Kept.setCell (S := fun b => b = bO) (p := ⟨bO, 1, none⟩) (Kept.refl _ w6) (fun _ => rfl) _) (by omega)
                case measure => simp [intOf]; omega
          · go_wp2_with fail
            go_roundw
            case rel => exact ⟨k + 1, m, av, cv, ns, by omega, by go_num, hnm, by omega, HX, HO, HN, HW, HZ, hbw⟩
            case measure => simp [intOf]; omega
      · obtain ⟨⟨t0, t1⟩, t2, t3⟩ := HX.out
        obtain ⟨⟨r0, r1⟩, r2, r3⟩ := HZ.out
        have hne : bO ≠ w.heap.size := by omega
        have HL60 := hide (show ns.length ≤ 60 by omega)
        have hown := HO.out
        have HOL := hide (fun g hg => (hown.lt g hg).1)
        clear hown
        go_wp2_with fail
        refine bodyPost_ret (v := .agg #[.int .i64 0, .slice av ns.length cv]) (by simp [results, Tryz.results9, go_sem, r0, r1]) rfl ⟨av, cv, ns, rfl, ?_, ⟨HL60.out, HN.out⟩, ?_⟩
        · exact (HO.out.kept (Kept.two wr w.heap.size 0 1 _ _) (fun g hg hS => by have := HOL.out g hg; omega)).mono (by omega)
        · exact (HW.out.setCell (p := ⟨w.heap.size, 0, none⟩) (Nat.le_refl _) _).setCell (p := ⟨w.heap.size, 1, none⟩) (Nat.le_refl _) _
  · generalize layersP ls = F at *
    have hz2 : (F != 0) = true := by simp; exact hz
    clear hz
    go_enter Tryz.func9, Tryz.ntmps9
    go_wp2_with fail
    refine HLF.out.mono ?_
    rintro r w1 ⟨rfl, hb1⟩
    have B1 := hide (below_next B0.out hb1)
    obtain ⟨⟨t0, t1⟩, t2, t3⟩ := X0.out.below hb1
    clear hb1
    go_wp2_with fail
    exact bodyPost_ret (v := .agg #[.int .i64 F, .slice none 0 0]) (by simp [results, Tryz.results9, go_sem, t0, t1]) rfl ⟨none, 0, [], rfl, OwnS.nil _ _, ⟨by decide, by simp⟩, (B1.out.setCell (p := ⟨w.heap.size, 0, none⟩) (Nat.le_refl _) _).setCell (p := ⟨w.heap.size, 1, none⟩) (Nat.le_refl _) _⟩
end Go.Proofs.YtjkmbicedbdifaaGreat
