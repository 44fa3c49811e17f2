/-
  Texts put together: OvrQ OvrE OvrS MntW MntX.
-/
import Derived.Test.YtebgfaohhhgdpaaGreatKMounts21
import Derived.Test.YtebgfaohhhgdpaaGreatKMounts17
import Derived.Test.YtebgfaohhhgdpaaGreatKMounts14
import Derived.Test.YtebgfaohhhgdpaaGreatKMounts24
namespace Go.Proofs.YtebgfaohhhgdpaaGreat
open Go.RowKit Go.Maps
set_option linter.unusedVariables false
attribute [local go_sem ↓] Go.wp_at_zero Go.wp_at_succ

def PathNs (ns : List Bs) : Prop := ns.length ≤ 60 ∧ ∀ x ∈ ns, faultP x = 0 ∧ x.length ≤ 1048576
theorem PathNs.put {ns : List Bs} {p : Bs} {k : Nat} (h : ∀ x ∈ ns, faultP x = 0 ∧ x.length ≤ 1048576) (hp : faultP p = 0) (hl : p.length ≤ 1048576) : ∀ x ∈ putS ns p, faultP x = 0 ∧ x.length ≤ 1048576 := fun x hx => by
  rcases mem_putS.1 hx with rfl | hx
  · exact ⟨hp, hl⟩
  · exact h x hx
theorem box_set1 {w : World} {b : Nat} {u v : Value} (h : Box w b u v) (v' : Value) : Box (w.setCell ⟨b, 1, none⟩ v') b u v' :=
  ⟨⟨by rw [cell_set_other (by simp)]; exact h.1.1, cell_set_same h.1.2⟩, by rw [World.frozen?_setCell]; exact h.2.1, by rw [World.frozen?_setCell]; exact h.2.2⟩
set_option maxRecDepth 100000 in
set_option maxHeartbeats 6400000 in
theorem specPathsOver_names (a : Option Addr) (c n : Nat) (ls : List (List En)) (w : World) (h : RdL w a ls) (hn : n = ls.length) (hl : ls.length ≤ 1048576) (hs : SmallL ls) (hg : ∀ es ∈ ls, layFault es = layFaultP es) :
    Calls Tryz.prog 69 #[.slice a n c] w fun r w' => ∃ av cv ns, r = .returned (.agg #[.int .i64 (layersP ls), .slice av ns.length cv]) ∧ OwnS w.heap.size w' (.slice av ns.length cv) ns ∧ PathNs ns ∧ Below w.heap.size w w' := by
  subst hn
  have X0 := hide (Box.new w (.int .i64 0) (.slice none 0 0) 85)
  have B0 := hide (below_alloc w (.cells #[.int .i64 0, .slice none 0 0] 85))
  have HLF := hide (specLayersFault_any a c ls.length ls _ (h.below B0.out) rfl hl hs hg)
  have HR := hide h
  clear h hs hg
  by_cases hz : layersP ls = 0
  · obtain ⟨h4, hRs⟩ := layersP_zero.1 hz
    rw [hz] at HLF ⊢
    have HRi := hide hRs
    clear hz hRs
    go_enter Tryz.func69, Tryz.ntmps69
    go_wp2_with fail
    refine HLF.out.mono ?_
    rintro r w1 ⟨rfl, hb1⟩
    have B1 := hide (below_next B0.out hb1)
    have X1 := hide (X0.out.below hb1)
    have BB := hide (below_next B1.out (below_alloc w1 (.cells #[.int .i64 0, .slice none 0 0] 85)))
    have XO := hide (Box.new w1 (.int .i64 0) (.slice none 0 0) 85)
    have X2 := hide (X1.out.below (below_alloc w1 (.cells #[.int .i64 0, .slice none 0 0] 85)))
    have hlt1 : w.heap.size < w1.heap.size := X1.out.1.lt
    have hsz2 : (w1.alloc (.cells #[.int .i64 0, .slice none 0 0] 85)).heap.size = w1.heap.size + 1 := by simp
    clear hb1 X0 B0 HLF B1 X1
    obtain ⟨⟨t0, t1⟩, t2, t3⟩ := XO.out
    go_wp2_with fail
    clear t0 t1 t2 t3
    generalize w1.alloc (.cells #[.int .i64 0, .slice none 0 0] 85) = W2 at *
    generalize w1.heap.size = bO at *
    go_loopw [5] (fun i wr => ∃ (k m : Nat) (av : Option Addr) (cv : Nat) (ns : List Bs), k ≤ ls.length ∧ i = .int .i64 k ∧ ns.length ≤ m ∧ m ≤ 12 * k ∧ Hid (Box wr bO (.int .i64 0) (.slice av ns.length cv)) ∧ Hid (OwnS (bO + 1) wr (.slice av ns.length cv) ns) ∧ Hid (∀ x ∈ ns, faultP x = 0 ∧ x.length ≤ 1048576) ∧ Hid (Below w.heap.size w wr) ∧ Hid (Box wr w.heap.size (.int .i64 0) (.slice none 0 0)) ∧ bO < wr.heap.size) (fun i _ => ls.length - (intOf i).toNat)
    case atStart => exact ⟨0, 0, none, 0, [], Nat.zero_le _, rfl, Nat.zero_le _, Nat.zero_le _, XO, hide (OwnS.nil _ _), hide (by simp), BB, X2, by omega⟩
    case round =>
      obtain ⟨k, m, av, cv, ns, hk, rfl, hnm, hm, HX, HO, HN, HW, HZ, hbw⟩ := hrel
      by_cases hlt : k < ls.length
      · obtain ⟨b, off, es, x, cc, rfl, hb, he, c0, hr⟩ := HR.out.at hlt
        have hRi := HRi.out es (List.mem_of_getElem? he)
        have hel := hRi.len
        have HRE := hide hr
        have HRI := hide hRi
        have HSM := hide (right_small hRi)
        have KC : Hid (∀ w', Below w.heap.size w w' → w'.cell? ⟨b, off + k, none⟩ = some (.slice x es.length cc)) := hide (fun w' hb' => (hb'.cell (p := ⟨b, off + k, none⟩) hb).trans c0)
        have hk0 : (0 : Int) ≤ (k : Int) := by omega
        have hk1 : (k : Int) < (ls.length : Int) := by omega
        clear hr hRi he c0
        go_wp2_with fail
        go_loopw [6] (fun i wx => ∃ (j m : Nat) (av : Option Addr) (cv : Nat) (ns : List Bs), j ≤ es.length ∧ i = .int .i64 j ∧ ns.length ≤ m ∧ m ≤ 12 * k + j ∧ Hid (Box wx bO (.int .i64 0) (.slice av ns.length cv)) ∧ Hid (OwnS (bO + 1) wx (.slice av ns.length cv) ns) ∧ Hid (∀ x ∈ ns, faultP x = 0 ∧ x.length ≤ 1048576) ∧ Hid (Below w.heap.size w wx) ∧ Hid (Box wx w.heap.size (.int .i64 0) (.slice none 0 0)) ∧ bO < wx.heap.size) (fun i _ => es.length - (intOf i).toNat)
        case atStart => exact ⟨0, m, av, cv, ns, Nat.zero_le _, rfl, hnm, by omega, HX, HO, HN, HW, HZ, hbw⟩
        case round =>
          clear HX HO HN HW HZ hbw hnm hm
          obtain ⟨j, m, av, cv, ns, hj, rfl, hnm, hm, HX, HO, HN, HW, HZ, hbw⟩ := hrel
          have c0 := KC.out _ HW.out
          by_cases hlt2 : j < es.length
          · obtain ⟨bb, off2, e, y, yc, hxe, hbb, he, z0, z1, z2, z3, hrc⟩ := HRE.out.at hlt2
            subst hxe
            have hpf := entFault_zero (HRI.out.ent e (List.mem_of_getElem? he))
            have hsm := HSM.out e (List.mem_of_getElem? he)
            have KE : Hid (∀ w', Below w.heap.size w w' → w'.cell? ⟨bb, off2 + j * 4, none⟩ = some (.string (str e.path))) := hide (fun w' hb' => (hb'.cell (p := ⟨bb, off2 + j * 4, none⟩) hbb).trans z0)
            have e0 := KE.out _ HW.out
            have HPL := hide (l8Place_any (some ⟨b, off, none⟩) c ls.length ls e.path wr (HR.out.below HW.out) rfl h4 HRi.out hpf hsm.1)
            have hj0 : (0 : Int) ≤ (j : Int) := by omega
            have hj1 : (j : Int) < (es.length : Int) := by omega
            have HPF := hide hpf
            clear he hrc z0 z1 z2 z3 hpf
            obtain ⟨LN, hLN⟩ : ∃ LN, LN = ns.length := ⟨_, rfl⟩
            rw [← hLN] at HX HO hnm
            have HLN := hide hLN
            clear hLN
            cases hsn : seenL ls e.path with
            | none =>
              rw [hsn, show placeI none = -1 from rfl] at HPL
              clear hsn
              go_wp2_with fail
              refine HPL.out.mono ?_
              rintro r w3 ⟨rfl, hb3⟩
              have HX3 := hide (HX.out.below hb3)
              have HO3 := hide (HO.out.below hb3)
              have HW3 := hide (below_next HW.out hb3)
              have HZ3 := hide (HZ.out.below hb3)
              have hb3s := hb3.size
              clear hb3 HX HO HW HZ HPL c0 e0
              go_wp2_with fail
              go_roundw
              case rel =>
                have e9 := HLN.out
                subst e9
                exact ⟨j + 1, m, av, cv, ns, by omega, by go_num, hnm, by omega, HX3, HO3, HN, HW3, HZ3, by omega⟩
              case measure => simp [intOf]; omega
            | some q =>
              rw [hsn, show placeI (some q) = (q : Int) from rfl] at HPL
              clear hsn
              have hq0 : (0 : Int) ≤ (q : Int) := by omega
              go_wp2_with fail
              refine HPL.out.mono ?_
              rintro r w3 ⟨rfl, hb3⟩
              have HX3 := hide (HX.out.below hb3)
              have HO3 := hide (HO.out.below hb3)
              have HW3 := hide (below_next HW.out hb3)
              have HZ3 := hide (HZ.out.below hb3)
              have hb3s := hb3.size
              clear hb3 HX HO HW HZ HPL c0 e0
              have HIN := hide (l8In_any av cv LN ns e.path w3 HO3.out.reads HLN.out (by rw [← HLN.out]; omega))
              obtain ⟨⟨t0, t1⟩, t2, t3⟩ := HX3.out
              by_cases hmm : e.path ∈ ns
              · rw [decide_eq_true hmm] at HIN
                clear hmm
                go_wp2_with fail
                refine HIN.out.mono ?_
                rintro r w4 ⟨rfl, hw4⟩
                have hw5 := hw4.symm
                clear hw4
                subst hw5
                go_wp2_with fail
                go_roundw
                case rel =>
                  have e9 := HLN.out
                  subst e9
                  exact ⟨j + 1, m, av, cv, ns, by omega, by go_num, hnm, by omega, HX3, HO3, HN, HW3, HZ3, by omega⟩
                case measure => simp [intOf]; omega
              · rw [decide_eq_false hmm] at HIN
                clear hmm
                have HPU := hide (l8Put_any av cv LN ns e.path w3 HO3.out HLN.out (by rw [← HLN.out]; omega))
                go_wp2_with fail
                refine HIN.out.mono ?_
                rintro r w4 ⟨rfl, hw4⟩
                have hw5 := hw4.symm
                clear hw4
                subst hw5
                go_wp2_with fail
                refine HPU.out.mono ?_
                rintro r w6 ⟨av6, cv6, rfl, hO6, hb6⟩
                have HX6 := hide (HX3.out.below hb6)
                have HW6 := hide (below_next HW3.out hb6)
                have HZ6 := hide (HZ3.out.below hb6)
                have O6 := hide hO6
                have HPN := hide (PathNs.put (k := 0) HN.out HPF.out hsm.1)
                have HL6 := hide (putS_len ns e.path)
                have hb6s := hb6.size
                clear hO6 hb6 t0 t1 t2 t3
                obtain ⟨⟨t0, t1⟩, t2, t3⟩ := HX6.out
                generalize putS ns e.path = ns6 at *
                clear HPU HIN
                go_wp2_with fail
                go_roundw
                case rel =>
                  have e9 := HLN.out
                  have e8 := HL6.out
                  refine ⟨j + 1, m + 1, av6, cv6, ns6, by omega, by go_num, by omega, by omega, hide ?_, hide ?_, HPN, hide ?_, hide ?_, by simp [World.setCell]; omega⟩
                  · exact box_set1 HX6.out _
                  · exact (O6.out.mono (by omega)).kept (Kept.setCell (S := fun b => b = bO) (p := ⟨bO, 1, none⟩) (Kept.refl _ w6) (fun _ => rfl) _) (fun g hg hS => by have := (O6.out.lt g hg).1; omega)
                  · exact HW6.out.setCell (p := ⟨bO, 1, none⟩) (by show w.heap.size ≤ bO; omega) _
                  · exact HZ6.out.kept (Kept.setCell (S := fun b => b = bO) (p := ⟨bO, 1, none⟩) (Kept.refl _ w6) (fun _ => rfl) _) (by omega)
                case measure => simp [intOf]; omega
          · go_wp2_with fail
            go_roundw
            case rel => exact ⟨k + 1, m, av, cv, ns, by omega, by go_num, hnm, by omega, HX, HO, HN, HW, HZ, hbw⟩
            case measure => simp [intOf]; omega
      · obtain ⟨⟨t0, t1⟩, t2, t3⟩ := HX.out
        obtain ⟨⟨r0, r1⟩, r2, r3⟩ := HZ.out
        have hne : bO ≠ w.heap.size := by omega
        have HL60 := hide (show ns.length ≤ 60 by omega)
        have hown := HO.out
        have HOL := hide (fun g hg => (hown.lt g hg).1)
        clear hown
        go_wp2_with fail
        refine bodyPost_ret (v := .agg #[.int .i64 0, .slice av ns.length cv]) (by simp [results, Tryz.results69, go_sem, r0, r1]) rfl ⟨av, cv, ns, rfl, ?_, ⟨HL60.out, HN.out⟩, ?_⟩
        · exact (HO.out.kept (Kept.two wr w.heap.size 0 1 _ _) (fun g hg hS => by have := HOL.out g hg; omega)).mono (by omega)
        · exact (HW.out.setCell (p := ⟨w.heap.size, 0, none⟩) (Nat.le_refl _) _).setCell (p := ⟨w.heap.size, 1, none⟩) (Nat.le_refl _) _
  · generalize layersP ls = F at *
    have hz2 : (F != 0) = true := by simp; exact hz
    clear hz
    go_enter Tryz.func69, Tryz.ntmps69
    go_wp2_with fail
    refine HLF.out.mono ?_
    rintro r w1 ⟨rfl, hb1⟩
    have B1 := hide (below_next B0.out hb1)
    obtain ⟨⟨t0, t1⟩, t2, t3⟩ := X0.out.below hb1
    clear hb1
    go_wp2_with fail
    exact bodyPost_ret (v := .agg #[.int .i64 F, .slice none 0 0]) (by simp [results, Tryz.results69, go_sem, t0, t1]) rfl ⟨none, 0, [], rfl, OwnS.nil _ _, ⟨by decide, by simp⟩, (B1.out.setCell (p := ⟨w.heap.size, 0, none⟩) (Nat.le_refl _) _).setCell (p := ⟨w.heap.size, 1, none⟩) (Nat.le_refl _) _⟩
end Go.Proofs.YtebgfaohhhgdpaaGreat

namespace Go.Proofs.YtebgfaohhhgdpaaGreat
open Go.RowKit Go.Maps
set_option linter.unusedVariables false
attribute [local go_sem ↓] Go.wp_at_zero Go.wp_at_succ

theorem kept_append {p : Nat} {w wr w2 w3 : World} {o : Obj} {row : Option Nat} (h1 : Kept (fun b => b = p) w wr) (h2 : Kept (fun b => b = p) wr w2) (h3 : (w2.alloc o).grownBy w3 row) (hr : ∀ g, row = some g → w.heap.size ≤ g) : Kept (fun b => b = p) w w3 := by
  have hA := below_alloc w2 o
  refine ⟨h3.os.trans (hA.os.trans (h2.os.trans h1.os)), h3.tape.trans (hA.tape.trans (h2.tape.trans h1.tape)), h3.output.trans (hA.output.trans (h2.output.trans h1.output)), Nat.le_trans h1.size (Nat.le_trans h2.size (Nat.le_trans hA.size h3.size)), fun k hk hn => ?_⟩
  have e1 := h1.size
  have e2 := h2.size
  have e3 := hA.size
  exact (h3.block k (by omega) (fun e => by have := hr k e.symm; omega)).trans ((hA.block k (by omega)).trans ((h2.block k (by omega) hn).trans (h1.block k hk hn)))
theorem src_append {p : Nat} {w2 w3 : World} {zs : List Int} {T : Int} {o : Obj} {row : Option Nat} (h : SrcX w2 p zs T) (h3 : (w2.alloc o).grownBy w3 row) (hr : ∀ g, row = some g → p < g) : SrcX w3 p zs T :=
  (h.below (below_alloc w2 o)).kept (S := fun b => row = some b) ⟨h3.os, h3.tape, h3.output, h3.size, fun k hk hn => h3.block k hk (fun e => hn e.symm)⟩ (fun b hb e => by have := hr b e; omega)
def LaysD (w : World) (p : Nat) (zs : List Int) (T : Int) (v : Value) (rs : List Ly) (w' : World) : Prop :=
  rs.length ≤ 5 ∧ (∀ x ∈ rs, GoodH x.es ∧ x.es.length ≤ 13 ∧ SmallE x.es) ∧ OwnLs p w.heap.size w' v rs ∧ SrcX w' p zs T ∧ Kept (fun b => b = p) w w'
theorem right_ly {es : List En} (h : Right es) : GoodH es ∧ es.length ≤ 13 ∧ SmallE es := ⟨goodH_rise h.rise, by have := h.len; omega, right_small h⟩

set_option maxRecDepth 100000 in
set_option maxHeartbeats 6400000 in
theorem l7Layers_e (p : Nat) (zs : List Int) (T : Int) (w : World) (h : SrcX w p zs T) (hu : U8 zs) (hT : T ≤ 50000) (hl : zs.length ≤ 2097152) :
    Calls Tryz.prog 72 #[.pointer (some ⟨p, 0, none⟩)] w fun r w' => ∃ v rs, r = .returned v ∧ LaysD w p zs (T + 6000) v rs w' := by
  obtain ⟨i1, ki, kz0, kz1, kz2⟩ := info_parts infoLs
  have hp := h.lt
  have HU := hide hu
  have O0 := hide (OwnLs.made p w)
  have K0 := hide ((Kept.refl (fun b => b = p) w).alloc (.cells #[] 25))
  have K1 := hide (K0.out.alloc (.cells #[.int .i64 1, .int .i64 2, .int .i64 3, .int .i64 2, .int .i64 3, .int .i64 0] 2))
  have O1 := hide (O0.out.below (below_alloc _ (.cells #[.int .i64 1, .int .i64 2, .int .i64 3, .int .i64 2, .int .i64 3, .int .i64 0] 2)))
  have S1 := hide ((h.below (below_alloc w (.cells #[] 25))).below (below_alloc _ (.cells #[.int .i64 1, .int .i64 2, .int .i64 3, .int .i64 2, .int .i64 3, .int .i64 0] 2)))
  have CC := hide (show ∀ i, i < 6 → ((w.alloc (.cells #[] 25)).alloc (.cells #[.int .i64 1, .int .i64 2, .int .i64 3, .int .i64 2, .int .i64 3, .int .i64 0] 2)).cell? ⟨w.heap.size + 1, i, none⟩ = some (.int .i64 (([1, 2, 3, 2, 3, 0] : List Int).getD i 0)) from fun i hi => by
    have : i = 0 ∨ i = 1 ∨ i = 2 ∨ i = 3 ∨ i = 4 ∨ i = 5 := by omega
    have hs : (w.alloc (.cells #[] 25)).heap.size = w.heap.size + 1 := by simp
    rw [← hs]
    rcases this with rfl | rfl | rfl | rfl | rfl | rfl <;> simp)
  have hgl : w.heap.size + 1 < ((w.alloc (.cells #[] 25)).alloc (.cells #[.int .i64 1, .int .i64 2, .int .i64 3, .int .i64 2, .int .i64 3, .int .i64 0] 2)).heap.size := by simp
  clear h hu K0 O0
  go_enter Tryz.func72, Tryz.ntmps72
  go_wp2_with fail
  generalize (w.alloc (.cells #[] 25)).alloc (.cells #[.int .i64 1, .int .i64 2, .int .i64 3, .int .i64 2, .int .i64 3, .int .i64 0] 2) = W1 at *
  refine (pick_e p (w.heap.size + 1) 6 6 [1, 2, 3, 2, 3, 0] zs T W1 S1.out HU.out (by omega) hl (by decide) (by decide) rfl (by omega) hgl CC.out).mono ?_
  rintro r w2 ⟨kv, hkv, rfl, s2, k2⟩
  obtain ⟨k0, hk0, rfl⟩ : ∃ k0 : Nat, k0 ≤ 3 ∧ kv = k0 := ⟨kv.toNat, by simp at hkv; omega, by simp at hkv; omega⟩
  have S2 := hide s2
  have O2 := hide (O1.out.kept k2 hp)
  have K2 := hide (K1.out.trans k2)
  clear s2 k2 O1 K1 S1 CC hkv hgl
  go_wp2_with fail
  go_loopw [3, 4] (fun v i wr => ∃ (k : Nat) (rs : List Ly), i = .int .i64 k ∧ rs.length + k ≤ 3 ∧ Hid (OwnLs p w.heap.size wr v rs) ∧ Hid (∀ x ∈ rs, Right x.es) ∧ Hid (SrcX wr p zs (T + 1 + 1000 * rs.length)) ∧ Hid (Kept (fun b => b = p) w wr)) (fun _ i _ => (intOf i).toNat)
  case atStart => exact ⟨k0, [], rfl, by simpa using hk0, O2, hide (fun x hx => by simp at hx), hide (by simpa using S2.out), K2⟩
  case round =>
    obtain ⟨k, rs, rfl, hk3, HO, HRi, HS, HK⟩ := hrel
    obtain ⟨va, vc, rfl⟩ := HO.out.shape
    by_cases hk : 0 < k
    · have hk' : (0 : Int) < (k : Int) := by omega
      go_wp2_with fail
      refine (right_e p zs _ wr HS.out HU.out (by omega) hl).mono ?_
      rintro r w3 ⟨es, av, cv, rfl, hR, hG, s3, k3⟩
      have hpr : p < wr.heap.size := Nat.lt_of_lt_of_le hp HK.out.size
      have O3 := hide (HO.out.kept k3 hp)
      have OA := hide ((O3.out.below (below_alloc w3 (.cells #[.slice av es.length cv] 25))).1)
      have hvl := HO.out.1.lt
      have hm1 : rs.length + 1 ≤ maxLen := by unfold maxLen; omega
      have hm2 : (rs.length + 1) * 24 ≤ 140737488355328 := by omega
      have hb3 : w.heap.size ≤ (w3.alloc (.cells #[.slice av es.length cv] 25)).heap.size := by have := HK.out.size; have := k3.size; simp; omega
      have G3 := hide hG
      have S3 := hide s3
      have K3 := hide k3
      clear hG s3 k3
      go_wp2_with (at_builtin; refine wpList_append_own_at _ rfl (.tmp 13) (.tmp 16) 24 rfl w.heap.size 25 i1 (.slice none 0 0) 1 24 Tryz.underlying24 ki kz0 kz1 kz2 rfl (by decide) _ _ _ rfl OA.out ⟨w3.heap.size, 0, none⟩ 1 1 [.slice av es.length cv] rfl rfl (cell_one_new _ _ _) (by intro u hu; simp at hu; subst hu; rfl) hm1 hm2 hb3 ?_; intro v' w4 hown4 hg4 hnil4 hblk4)
      have hO4 := O3.out.snoc (x := ⟨es, av, cv⟩) hpr (Nat.le_refl _) (fun g hg => Or.inl (hvl g hg).2) G3.out hown4 hg4 hblk4
      have hS4 := src_append S3.out hg4 (fun g hg => by have := (hvl g hg).1; omega)
      have hK4 := kept_append HK.out K3.out hg4 (fun g hg => (hvl g hg).1)
      have hS5 : SrcX w4 p zs (T + 1 + 1000 * ((rs ++ [(⟨es, av, cv⟩ : Ly)]).length : Int)) := by
        have e5 : T + 1 + 1000 * ((rs ++ [(⟨es, av, cv⟩ : Ly)]).length : Int) = T + 1 + 1000 * (rs.length : Int) + 1000 := by simp; omega
        rw [e5]; exact hS4
      have hR5 : ∀ x ∈ rs ++ [(⟨es, av, cv⟩ : Ly)], Right x.es := fun x hx => by
        rcases List.mem_append.1 hx with hx | hx
        · exact HRi.out x hx
        · simp only [List.mem_singleton] at hx; subst hx; exact hR
      have hk1 : ((k - 1 : Nat) : Int) = (k : Int) - 1 := by omega
      go_roundw
      case rel => exact ⟨k - 1, rs ++ [⟨es, av, cv⟩], by rw [hk1], by simp; omega, hide hO4, hide hR5, hide hS5, hide hK4⟩
      case measure => simp [intOf]; omega
    · have hk' : ¬ (0 : Int) < (k : Int) := by omega
      have hpr : p < wr.heap.size := Nat.lt_of_lt_of_le hp HK.out.size
      have HLy := hide (show ∀ x ∈ rs, GoodH x.es ∧ x.es.length ≤ 13 ∧ SmallE x.es from fun x hx => right_ly (HRi.out x hx))
      go_wp2_with fail
      refine (next_e p zs _ 14 wr HS.out HU.out (by omega) (by decide) (by decide) hl).mono ?_
      rintro r w3 ⟨m, rfl, hm, s3, k3⟩
      have S3 := hide s3
      have O3 := hide (HO.out.kept k3 hp)
      have K3 := hide (HK.out.trans k3)
      clear s3 k3 HO HK HS
      by_cases m0 : m = 0
      · subst m0
        go_wp2_with fail
        refine (bentLay_e p zs _ w3 S3.out HU.out (by omega) hl).mono ?_
        rintro r w4 ⟨es, av, cv, rfl, hgo, hle, hsm, hG, s4, k4⟩
        have hpr3 : p < w3.heap.size := Nat.lt_of_lt_of_le hp K3.out.size
        have O4 := hide (O3.out.kept k4 hp)
        have OA := hide ((O4.out.below (below_alloc w4 (.cells #[.slice av es.length cv] 25))).1)
        have hvl := O3.out.1.lt
        have hm1 : rs.length + 1 ≤ maxLen := by unfold maxLen; omega
        have hm2 : (rs.length + 1) * 24 ≤ 140737488355328 := by omega
        have hb3 : w.heap.size ≤ (w4.alloc (.cells #[.slice av es.length cv] 25)).heap.size := by have := K3.out.size; have := k4.size; simp; omega
        have G4 := hide hG
        have S4 := hide s4
        have K4 := hide k4
        clear hG s4 k4
        go_wp2_with (at_builtin; refine wpList_append_own_at _ rfl (.tmp 22) (.tmp 25) 24 rfl w.heap.size 25 i1 (.slice none 0 0) 1 24 Tryz.underlying24 ki kz0 kz1 kz2 rfl (by decide) _ _ _ rfl OA.out ⟨w4.heap.size, 0, none⟩ 1 1 [.slice av es.length cv] rfl rfl (cell_one_new _ _ _) (by intro u hu; simp at hu; subst hu; rfl) hm1 hm2 hb3 ?_; intro v' w5 hown5 hg5 hnil5 hblk5)
        have hO5 := O4.out.snoc (x := ⟨es, av, cv⟩) hpr3 (Nat.le_refl _) (fun g hg => Or.inl (hvl g hg).2) G4.out hown5 hg5 hblk5
        have hS5 := src_append S4.out hg5 (fun g hg => by have := (hvl g hg).1; omega)
        have hK5 := kept_append K3.out K4.out hg5 (fun g hg => (hvl g hg).1)
        go_ret
        refine ⟨v', rs ++ [⟨es, av, cv⟩], rfl, by simp; omega, fun x hx => ?_, hO5, hS5.mono (by omega), hK5⟩
        rcases List.mem_append.1 hx with hx | hx
        · exact HLy.out x hx
        · simp only [List.mem_singleton] at hx; subst hx; exact ⟨hgo, hle, hsm⟩
      · have m0' : ¬ (m : Int) = 0 := by omega
        by_cases m1 : m = 1
        · subst m1
          have hby5 : i1.bytes * 5 ≤ 281474976710656 := by rw [kz2]; decide
          have hml5 : 5 ≤ maxLen := by unfold maxLen; decide
          go_wp2_with (first | (at_make; refine wpList_make_full _ rfl _ _ 24 rfl w.heap.size 25 i1 (.slice none 0 0) 1 Tryz.underlying24 ki kz0 kz1 .i64 .i64 _ _ 5 rfl rfl rfl rfl hby5 hml5 (by have := K3.out.size; omega) ?_; intro w4 ho4 hg4) | fail)
          go_ret
          have hB4 : Below w3.heap.size w3 w4 := ⟨hg4.os, hg4.tape, hg4.output, hg4.size, fun k hk => hg4.block k hk (by simp)⟩
          refine ⟨.slice (some ⟨w3.heap.size, 0, none⟩) 5 5, List.replicate 5 ⟨[], none, 0⟩, rfl, by simp, fun x hx => ?_, ⟨?_, fun x hx => ?_⟩, (S3.out.below hB4).mono (by omega), K3.out.trans (Kept.of_below hB4)⟩
          · rw [(List.mem_replicate.1 hx).2]
            exact ⟨goodH_rise List.Pairwise.nil, by simp, fun e he => by simp at he⟩
          · have e5 : (madeCells (Value.slice none 0 0).cells (5 * 1)).toList = List.map lyV (List.replicate 5 ⟨[], none, 0⟩) := by
              first
                | kernel_rfl
                | simp [madeCells, lyV, Value.cells, List.replicate]
            rw [e5] at ho4
            exact ho4
          · rw [(List.mem_replicate.1 hx).2]
            exact ⟨p + 1, 0, by omega, by omega, fun g _ => Or.inr (by omega), GE.nil _ _ _⟩
        · have m1' : ¬ (m : Int) = 1 := by omega
          go_wp2_with fail
          go_ret
          exact ⟨.slice va rs.length vc, rs, rfl, by omega, HLy.out, O3.out, S3.out.mono (by omega), K3.out⟩
end Go.Proofs.YtebgfaohhhgdpaaGreat

namespace Go.Proofs.YtebgfaohhhgdpaaGreat
open Go.RowKit Go.Maps
set_option linter.unusedVariables false
attribute [local go_sem ↓] Go.wp_at_zero Go.wp_at_succ

theorem OwnS.keptP {p B : Nat} {w w' : World} {v : Value} {ns : List Bs} (h : OwnS B w v ns) (hk : Kept (fun b => b = p) w w') (hp : p < B) : OwnS B w' v ns := h.kept hk (fun g hg e => by have := (h.lt g hg).1; omega)
def GoodLs (ls : List (List En)) : Prop := ls.length ≤ 5 ∧ SmallL ls ∧ ∀ es ∈ ls, es.length ≤ 13 ∧ layFault es = layFaultP es
theorem goodLs_of {rs : List Ly} (h5 : rs.length ≤ 5) (h : ∀ x ∈ rs, GoodH x.es ∧ x.es.length ≤ 13 ∧ SmallE x.es) : GoodLs (rs.map Ly.es) := by
  refine ⟨by rw [List.length_map]; exact h5, fun es he => ?_, fun es he => ?_⟩
  · obtain ⟨x, hx, rfl⟩ := List.mem_map.1 he
    obtain ⟨_, h2, h3⟩ := h x hx
    exact ⟨by omega, h3⟩
  · obtain ⟨x, hx, rfl⟩ := List.mem_map.1 he
    obtain ⟨h1, h2, _⟩ := h x hx
    exact ⟨h2, h1.good.symm⟩
end Go.Proofs.YtebgfaohhhgdpaaGreat

namespace Go.Proofs.YtebgfaohhhgdpaaGreat
open Go.RowKit Go.Maps
set_option linter.unusedVariables false
attribute [local go_sem ↓] Go.wp_at_zero Go.wp_at_succ

theorem GW.keptP {p : Nat} {w w' : World} {v : Value} {es : List En} (h : GW (p + 1) w v es) (hk : Kept (fun b => b = p) w w') : GW (p + 1) w' v es := h.kept hk (fun b hb e => by omega)
def GoodU (U : List En) : Prop := U.length ≤ 13 ∧ SmallE U ∧ layFault U = layFaultP U
theorem goodU_right {U : List En} (h : Right U) : GoodU U := ⟨by have := h.len; omega, right_small h, (goodH_rise h.rise).good.symm⟩
theorem snoc_right {rs : List Ly} {U : List En} (h : ∀ x ∈ rs, Right x.es) (hU : Right U) : ∀ es ∈ rs.map Ly.es ++ [U], Right es := fun es he => by
  rcases List.mem_append.1 he with he | he
  · obtain ⟨x, hx, rfl⟩ := List.mem_map.1 he; exact h x hx
  · simp at he; subst he; exact hU
set_option maxRecDepth 100000 in
set_option maxHeartbeats 12800000 in
theorem l9Mount_any (a : Option Addr) (cap : Nat) (zs : List Int) (w : World) (h : Reads .u8 w a zs) (hu : U8 zs) (hl : zs.length ≤ 1048576) :
    Calls Tryz.prog 24 #[.slice a zs.length cap] w fun r w' => ∃ (ls : List (List En)) (av : Option Addr) (cv n : Nat) (U : List En) (ua : Option Addr) (uc : Nat) (q : Bs), r = .returned (.tuple #[.slice av n cv, .slice ua U.length uc, .string (str q)]) ∧ n = ls.length ∧ RdL w' av ls ∧ GoodLs ls ∧ RdE w' ua U ∧ GoodU U ∧ q.length ≤ 1048576 ∧ Below w.heap.size w w' := by
  obtain ⟨i1, ki, kz0, kz1, kz2⟩ := info_parts infoLs
  have HR := hide h
  have HU := hide hu
  clear h hu
  have hfd : ∀ (w : World) (q r : Int) (v : Value), (Instr.field 32 (.agg #[.int .i64 q, .int .i64 r, v]) 2).run Tryz.prog w = .ok v w := fun _ _ _ _ => by kernel_rfl
  have hfn : ∀ (w : World) (F : Int) (v : Value), (Instr.field 85 (.agg #[.int .i64 F, v]) 1).run Tryz.prog w = .ok v w := fun _ _ _ => by kernel_rfl
  go_enter Tryz.func24, Tryz.ntmps24
  go_wp2_with fail
  refine (l1Source_any a cap zs _ HR.out).mono ?_
  rintro r w1 ⟨rfl, s1, z1, b1⟩
  have S1 := hide (show SrcX w1 w.heap.size zs 0 from ⟨0, by decide, by decide, s1⟩)
  have B1 := hide b1
  have hp1 : w.heap.size < w1.heap.size := S1.out.lt
  clear s1 b1 z1
  have OA1 := hide (OwnLs.made w.heap.size w1)
  have SA1 := hide (S1.out.below (below_alloc w1 (.cells #[] 25)))
  have KA1 := hide ((Kept.refl (fun b => b = w.heap.size) w1).alloc (.cells #[] 25))
  clear S1
  go_wp2_with fail
  generalize w1.alloc (.cells #[] 25) = W1 at *
  refine (next_e w.heap.size zs 0 3 W1 SA1.out HU.out (by decide) (by decide) (by decide) (by omega)).mono ?_
  rintro r w2 ⟨k0, rfl, hk0, s2, k2⟩
  have S2 := hide s2
  have O2 := hide (OA1.out.kept k2 hp1)
  have K2 := hide (KA1.out.trans k2)
  clear s2 k2 OA1 KA1 SA1
  go_wp2_with fail
  go_loopw [6, 7] (fun v i wr => ∃ (k : Nat) (rs : List Ly), i = .int .i64 k ∧ rs.length + k ≤ 2 ∧ Hid (OwnLs w.heap.size w1.heap.size wr v rs) ∧ Hid (∀ x ∈ rs, Right x.es) ∧ Hid (SrcX wr w.heap.size zs (1 + 1000 * rs.length)) ∧ Hid (Kept (fun b => b = w.heap.size) w1 wr)) (fun _ i _ => (intOf i).toNat)
  case atStart => exact ⟨k0, [], rfl, by simp; omega, O2, hide (fun x hx => by simp at hx), hide (by simpa using S2.out), K2⟩
  case round =>
    obtain ⟨k, rs, rfl, hk3, HO, HRi, HS, HK⟩ := hrel
    obtain ⟨va, vc, rfl⟩ := HO.out.shape
    by_cases hk : 0 < k
    · have hk' : (0 : Int) < (k : Int) := by omega
      go_wp2_with fail
      refine (right_e w.heap.size zs _ wr HS.out HU.out (by omega) (by omega)).mono ?_
      rintro r w3 ⟨es, av, cv, rfl, hR, hG, s3, k3⟩
      have hpr : w.heap.size < wr.heap.size := Nat.lt_of_lt_of_le hp1 HK.out.size
      have O3 := hide (HO.out.kept k3 hp1)
      have OA := hide ((O3.out.below (below_alloc w3 (.cells #[.slice av es.length cv] 25))).1)
      have hvl := HO.out.1.lt
      have hm1 : rs.length + 1 ≤ maxLen := by unfold maxLen; omega
      have hm2 : (rs.length + 1) * 24 ≤ 140737488355328 := by omega
      have hb3 : w1.heap.size ≤ (w3.alloc (.cells #[.slice av es.length cv] 25)).heap.size := by have := HK.out.size; have := k3.size; simp; omega
      have G3 := hide hG
      have S3 := hide s3
      have K3 := hide k3
      clear hG s3 k3
      go_wp2_with (at_builtin; refine wpList_append_own_at _ rfl (.tmp 22) (.tmp 25) 24 rfl w1.heap.size 25 i1 (.slice none 0 0) 1 24 Tryz.underlying24 ki kz0 kz1 kz2 rfl (by decide) _ _ _ rfl OA.out ⟨w3.heap.size, 0, none⟩ 1 1 [.slice av es.length cv] rfl rfl (cell_one_new _ _ _) (by intro u hu; simp at hu; subst hu; rfl) hm1 hm2 hb3 ?_; intro v' w4 hown4 hg4 hnil4 hblk4)
      have hO4 := O3.out.snoc (x := ⟨es, av, cv⟩) hpr (Nat.le_refl _) (fun g hg => Or.inl (hvl g hg).2) G3.out hown4 hg4 hblk4
      have hS4 := src_append S3.out hg4 (fun g hg => by have := (hvl g hg).1; omega)
      have hK4 := kept_append HK.out K3.out hg4 (fun g hg => (hvl g hg).1)
      have hS5 : SrcX w4 w.heap.size zs (1 + 1000 * ((rs ++ [(⟨es, av, cv⟩ : Ly)]).length : Int)) := by
        have e5 : 1 + 1000 * ((rs ++ [(⟨es, av, cv⟩ : Ly)]).length : Int) = 1 + 1000 * (rs.length : Int) + 1000 := by simp; omega
        rw [e5]; exact hS4
      have hR5 : ∀ x ∈ rs ++ [(⟨es, av, cv⟩ : Ly)], Right x.es := fun x hx => by
        rcases List.mem_append.1 hx with hx | hx
        · exact HRi.out x hx
        · simp only [List.mem_singleton] at hx; subst hx; exact hR
      have hk1 : ((k - 1 : Nat) : Int) = (k : Int) - 1 := by omega
      go_roundw
      case rel => exact ⟨k - 1, rs ++ [⟨es, av, cv⟩], by rw [hk1], by simp; omega, hide hO4, hide hR5, hide hS5, hide hK4⟩
      case measure => simp [intOf]; omega
    · have hk' : ¬ (0 : Int) < (k : Int) := by omega
      have hrs2 : rs.length ≤ 2 := by omega
      have hpr : w.heap.size < wr.heap.size := Nat.lt_of_lt_of_le hp1 HK.out.size
      have GA := hide ((GW.of (GE.made wr)).mono (B' := w.heap.size + 1) (by omega))
      have OA := hide (HO.out.below (below_alloc wr (.cells #[] 53)))
      have SA := hide ((HS.out.mono (T' := 3000) (by omega)).below (below_alloc wr (.cells #[] 53)))
      have KA := hide (HK.out.alloc (.cells #[] 53))
      clear HO HS HK hk hk3
      go_wp2_with fail
      generalize wr.alloc (.cells #[] 53) = Wa at *
      generalize wr.heap.size = ba at *
      refine (next_e w.heap.size zs 3000 6 Wa SA.out HU.out (by decide) (by decide) (by decide) (by omega)).mono ?_
      rintro r w5 ⟨j0, rfl, hj0, s5, k5⟩
      have S5 := hide s5
      have O5 := hide (OA.out.kept k5 hp1)
      have K5 := hide (KA.out.trans k5)
      have G5 := hide (GA.out.keptP k5)
      clear s5 k5 SA OA KA GA
      go_wp2_with fail
      have B5 := hide (B1.out.trans (K5.out.below (B := w.heap.size) B1.out.size (fun b hb e => by omega)))
      clear K5
      go_loopw [8, 9, 10] (fun v i x wr => ∃ (j : Nat) (U : List En) (ua : Option Addr) (uc : Nat), i = .int .i64 j ∧ j ≤ 5 ∧ v = .slice ua U.length uc ∧ Hid (GW (w.heap.size + 1) wr (.slice ua U.length uc) U) ∧ Hid (Right U) ∧ Hid (OwnLs w.heap.size w1.heap.size wr (.slice va rs.length vc) rs) ∧ Hid (SrcX wr w.heap.size zs (3001 + 20 * (5 - (j : Int)))) ∧ Hid (Below w.heap.size w wr)) (fun _ i _ _ => (intOf i).toNat)
      case atStart => exact ⟨j0, [], some ⟨ba, 0, none⟩, 0, rfl, by omega, rfl, G5, hide ⟨by simp, fun e he => by simp at he, List.Pairwise.nil, fun e he => by simp at he⟩, O5, hide (S5.out.mono (by omega)), B5⟩
      case round =>
        obtain ⟨j, U, ua, uc, rfl, hj5, rfl, G6, HRU, O6, S6, B6⟩ := hrel
        by_cases hj : 0 < j
        · have hj' : (0 : Int) < (j : Int) := by omega
          go_wp2_with fail
          refine (path_e w.heap.size zs _ wr S6.out HU.out (by omega) (by omega)).mono ?_
          rintro r w7 ⟨x, rfl, hxp, hxl, s7, k7⟩
          have S7 := hide s7
          have O7 := hide (O6.out.kept k7 hp1)
          have G7 := hide (G6.out.keptP k7)
          have B7 := hide (B6.out.trans (k7.below (B := w.heap.size) B6.out.size (fun b hb e => by omega)))
          clear s7 k7 S6 O6 G6 B6
          go_wp2_with fail
          refine (next_e w.heap.size zs _ 3 w7 S7.out HU.out (by omega) (by decide) (by decide) (by omega)).mono ?_
          rintro r w8 ⟨m, rfl, hm, s8, k8⟩
          have S8 := hide s8
          have O8 := hide (O7.out.kept k8 hp1)
          have G8 := hide (G7.out.keptP k8)
          have B8 := hide (B7.out.trans (k8.below (B := w.heap.size) B7.out.size (fun b hb e => by omega)))
          clear s8 k8 S7 O7 G7 B7
          by_cases m0 : m = 0
          · subst m0
            go_wp2_with fail
            refine (next_e w.heap.size zs _ 9 w8 S8.out HU.out (by omega) (by decide) (by decide) (by omega)).mono ?_
            rintro r w9 ⟨n9, rfl, hn9, s9, k9⟩
            have S9 := hide s9
            have O9 := hide (O8.out.kept k9 hp1)
            have G9 := hide (G8.out.keptP k9)
            have B9 := hide (B8.out.trans (k9.below (B := w.heap.size) B8.out.size (fun b hb e => by omega)))
            clear s9 k9 S8 O8 G8 B8
            go_wp2_with fail
            refine (some_e w.heap.size n9 zs _ w9 S9.out HU.out (by omega) (by omega) (by omega)).mono ?_
            rintro r w10 ⟨da, dc, ds, rfl, hdl, hdu, ho, s10, k10⟩
            subst hdl
            have RD := hide (ownInts_reads ho rfl)
            have hcap := ownsRow_cap ho
            have DU := hide hdu
            clear ho hdu
            have S10 := hide s10
            have O10 := hide (O9.out.kept k10 hp1)
            have G10 := hide (G9.out.keptP k10)
            have B10 := hide (B9.out.trans (k10.below (B := w.heap.size) B9.out.size (fun b hb e => by omega)))
            clear s10 k10 S9 O9 G9 B9
            have hpw := S10.out.lt
            have HLn := hide (show rs.length = (rs.map Ly.es).length by rw [List.length_map])
            have HCL := hide (l9Write_any va vc rs.length (rs.map Ly.es) ua uc U.length U x ds da dc w10 O10.out.rd HLn.out G10.out.rd rfl (by rw [List.length_append, List.length_map]; simp; omega) (snoc_right HRi.out HRU.out) hxp (by omega) RD.out DU.out hcap (by omega))
            go_wp2_with fail
            refine HCL.out.mono ?_
            rintro r w11 ⟨rep, V, hV, av, cv, rfl, hG, hb⟩
            have HRV := hide (wr_right (snoc_right HRi.out HRU.out) hxp (by omega) hV)
            have G11 := hide (hG.mono (B' := w.heap.size + 1) (by omega))
            have S11 := hide (S10.out.below hb)
            have O11 := hide (O10.out.below hb)
            have B11 := hide (below_next B10.out hb)
            clear hV hG hb HCL S10 O10 G10 B10 HLn
            go_wp2_with fail
            have hj1 : ((j - 1 : Nat) : Int) = (j : Int) - 1 := by omega
            go_roundw
            case rel => exact ⟨j - 1, V, av, cv, by rw [hj1], by omega, rfl, G11, HRV, O11, hide (S11.out.mono (by omega)), B11⟩
            case measure => simp [intOf]; omega
          · have m0' : ¬ (m : Int) = 0 := by omega
            by_cases m1 : m = 1
            · subst m1
              have hpw := S8.out.lt
              have HLn := hide (show rs.length = (rs.map Ly.es).length by rw [List.length_map])
              have HCL := hide (l9Make_any va vc rs.length (rs.map Ly.es) ua uc U.length U x w8 O8.out.rd HLn.out G8.out.rd rfl (by rw [List.length_append, List.length_map]; simp; omega) (snoc_right HRi.out HRU.out) hxp (by omega))
              go_wp2_with fail
              refine HCL.out.mono ?_
              rintro r w11 ⟨rep, V, hV, av, cv, rfl, hG, hb⟩
              have HRV := hide (mk_right (snoc_right HRi.out HRU.out) hxp hV)
              have G11 := hide (hG.mono (B' := w.heap.size + 1) (by omega))
              have S11 := hide (S8.out.below hb)
              have O11 := hide (O8.out.below hb)
              have B11 := hide (below_next B8.out hb)
              clear hV hG hb HCL S8 O8 G8 B8 HLn
              go_wp2_with fail
              have hj1 : ((j - 1 : Nat) : Int) = (j : Int) - 1 := by omega
              go_roundw
              case rel => exact ⟨j - 1, V, av, cv, by rw [hj1], by omega, rfl, G11, HRV, O11, hide (S11.out.mono (by omega)), B11⟩
              case measure => simp [intOf]; omega
            · have hm2 : m = 2 := by omega
              subst hm2
              have hpw := S8.out.lt
              have HLn := hide (show rs.length = (rs.map Ly.es).length by rw [List.length_map])
              have HCL := hide (l9Remove_any va vc rs.length (rs.map Ly.es) ua uc U.length U x w8 O8.out.rd HLn.out G8.out.rd rfl (by rw [List.length_append, List.length_map]; simp; omega) (snoc_right HRi.out HRU.out) hxp (by omega))
              go_wp2_with fail
              refine HCL.out.mono ?_
              rintro r w11 ⟨rep, V, hV, av, cv, rfl, hG, hb⟩
              have HRV := hide (rm_right (snoc_right HRi.out HRU.out) hxp hV)
              have G11 := hide (hG.mono (B' := w.heap.size + 1) (by omega))
              have S11 := hide (S8.out.below hb)
              have O11 := hide (O8.out.below hb)
              have B11 := hide (below_next B8.out hb)
              clear hV hG hb HCL S8 O8 G8 B8 HLn
              go_wp2_with fail
              have hj1 : ((j - 1 : Nat) : Int) = (j : Int) - 1 := by omega
              go_roundw
              case rel => exact ⟨j - 1, V, av, cv, by rw [hj1], by omega, rfl, G11, HRV, O11, hide (S11.out.mono (by omega)), B11⟩
              case measure => simp [intOf]; omega
        · have hj' : ¬ (0 : Int) < (j : Int) := by omega
          have HGL := hide (goodLs_of (by omega) (fun x hx => right_ly (HRi.out x hx)))
          go_wp2_with fail
          refine (bent_e w.heap.size zs _ wr S6.out HU.out (by omega) (by omega)).mono ?_
          rintro r w7 ⟨q, rfl, hql, s7, k7⟩
          have S7 := hide s7
          have O7 := hide (O6.out.kept k7 hp1)
          have G7 := hide (G6.out.keptP k7)
          have B7 := hide (B6.out.trans (k7.below (B := w.heap.size) B6.out.size (fun b hb e => by omega)))
          clear s7 k7 S6 O6 G6 B6
          have HLn := hide (show rs.length = (rs.map Ly.es).length by rw [List.length_map])
          have HAL := hide (l9All_any va vc rs.length (rs.map Ly.es) ua uc U.length U w7 O7.out.rd HLn.out (by rw [List.length_map]; omega) G7.out.rd rfl)
          have HRR := hide (snoc_right HRi.out HRU.out)
          have hal4 : (rs.map Ly.es ++ [U]).length ≤ 3 := by rw [List.length_append, List.length_map]; simp; omega
          generalize rs.map Ly.es ++ [U] = al at *
          go_wp2_with fail
          refine HAL.out.mono ?_
          rintro r w8 ⟨lv, lc, rfl, hr8, hb8⟩
          have S8 := hide (S7.out.below hb8)
          have O8 := hide (O7.out.below hb8)
          have G8 := hide (G7.out.below hb8)
          have B8 := hide (below_next B7.out hb8)
          have HPO := hide (specPathsOver_names lv lc al.length al w8 hr8 rfl (by omega) (fun es he => ⟨by have := (HRR.out es he).len; omega, right_small (HRR.out es he)⟩) (fun es he => (goodH_rise (HRR.out es he).rise).good.symm))
          have hp8 := S8.out.lt
          clear hr8 hb8 HAL S7 O7 G7 B7 HLn
          go_wp2_with fail
          refine HPO.out.mono ?_
          rintro r w9 ⟨nv, nc, ns, rfl, hN, hP, hb9⟩
          have S9 := hide (S8.out.below hb9)
          have O9 := hide (O8.out.below hb9)
          have G9 := hide (G8.out.below hb9)
          have B9 := hide (below_next B8.out hb9)
          have HN := hide hN
          have HP := hide hP
          have hnl := hP.1
          clear hN hP hb9 HPO S8 O8 G8 B8
          generalize layersP al = F at *
          by_cases hpos : 0 < ns.length
          · have hpos' : (0 : Int) < (ns.length : Int) := by omega
            go_wp2_with fail
            refine (chance_e w.heap.size zs _ 2 _ S9.out HU.out (by omega) (by decide) (by decide) (by omega)).mono ?_
            rintro r w10 ⟨ch, rfl, s10, k10⟩
            have N10 := hide (OwnS.keptP HN.out k10 hp8)
            have S10 := hide s10
            have O10 := hide (O9.out.kept k10 hp1)
            have G10 := hide (G9.out.keptP k10)
            have B10 := hide (B9.out.trans (k10.below (B := w.heap.size) B9.out.size (fun b hb e => by omega)))
            clear s10 k10 S9 O9 G9 B9
            cases ch
            · go_wp2_with fail
              refine (next_e w.heap.size zs _ 16 _ S10.out HU.out (by omega) (by decide) (by decide) (by omega)).mono ?_
              rintro r w20 ⟨m, rfl, hm, s20, k20⟩
              have S20 := hide s20
              have O20 := hide (O10.out.kept k20 hp1)
              have G20 := hide (G10.out.keptP k20)
              have B20 := hide (B10.out.trans (k20.below (B := w.heap.size) B10.out.size (fun b hb e => by omega)))
              clear s20 k20 S10 O10 G10 B10
              by_cases m0 : m = 0
              · subst m0
                go_wp2_with fail
                refine (bentLay_e w.heap.size zs _ w20 S20.out HU.out (by omega) (by omega)).mono ?_
                rintro r w21 ⟨es, av, cv, rfl, hgo, hle, hsm, hG, s21, k21⟩
                have O21 := hide (O20.out.kept k21 hp1)
                have B21 := hide (B20.out.trans (k21.below (B := w.heap.size) B20.out.size (fun b hb e => by omega)))
                have R21 := hide hG.rd
                have GU := hide (show GoodU es from ⟨hle, hsm, hgo.good.symm⟩)
                clear hgo hle hsm hG s21 k21 S20 O20 G20 B20
                go_wp2_with fail
                exact bodyPost_ret (v := .tuple #[.slice va rs.length vc, .slice av es.length cv, .string (str q)]) (by simp [results, Tryz.results24, go_sem]) rfl ⟨rs.map Ly.es, va, vc, rs.length, es, av, cv, q, rfl, by rw [List.length_map], O21.out.rd, HGL.out, R21.out, GU.out, by omega, B21.out⟩
              · have m0' : ¬ (m : Int) = 0 := by omega
                by_cases m1 : m = 1
                · subst m1
                  go_wp2_with fail
                  refine (l7Layers_e w.heap.size zs _ w20 S20.out HU.out (by omega) (by omega)).mono ?_
                  rintro r w21 ⟨v, rs2, rfl, h5, hly, hO, s21, k21⟩
                  obtain ⟨av, cv, rfl⟩ := hO.shape
                  have B21 := hide (B20.out.trans (k21.below (B := w.heap.size) B20.out.size (fun b hb e => by omega)))
                  have G21 := hide (G20.out.keptP k21)
                  have R21 := hide hO.rd
                  have HG2 := hide (goodLs_of h5 hly)
                  clear h5 hly hO s21 k21 S20 O20 G20 B20
                  go_wp2_with fail
                  exact bodyPost_ret (v := .tuple #[.slice av rs2.length cv, .slice ua U.length uc, .string (str q)]) (by simp [results, Tryz.results24, go_sem]) rfl ⟨rs2.map Ly.es, av, cv, rs2.length, U, ua, uc, q, rfl, by rw [List.length_map], R21.out, HG2.out, G21.out.rd, goodU_right HRU.out, by omega, B21.out⟩
                · have m1' : ¬ (m : Int) = 1 := by omega
                  go_wp2_with fail
                  exact bodyPost_ret (v := .tuple #[.slice va rs.length vc, .slice ua U.length uc, .string (str q)]) (by simp [results, Tryz.results24, go_sem]) rfl ⟨rs.map Ly.es, va, vc, rs.length, U, ua, uc, q, rfl, by rw [List.length_map], O20.out.rd, HGL.out, G20.out.rd, goodU_right HRU.out, by omega, B20.out⟩
            · go_wp2_with fail
              refine (next_e w.heap.size zs _ ns.length _ S10.out HU.out (by omega) (by omega) (by omega) (by omega)).mono ?_
              rintro r w11 ⟨ix, rfl, hix, s11, k11⟩
              have N11 := hide (OwnS.keptP N10.out k11 hp8)
              have S11 := hide s11
              have O11 := hide (O10.out.kept k11 hp1)
              have G11 := hide (G10.out.keptP k11)
              have B11 := hide (B10.out.trans (k11.below (B := w.heap.size) B10.out.size (fun b hb e => by omega)))
              clear s11 k11 S10 O10 G10 B10
              have hix' : ix < ns.length := by omega
              obtain ⟨nb, noff, y, rfl, hnb, hye, c0⟩ := N11.out.reads.at hix'
              have hyl := (HP.out.2 y (List.mem_of_getElem? hye)).2
              clear hye
              go_wp2_with fail
              refine (next_e w.heap.size zs _ 16 _ S11.out HU.out (by omega) (by decide) (by decide) (by omega)).mono ?_
              rintro r w20 ⟨m, rfl, hm, s20, k20⟩
              have S20 := hide s20
              have O20 := hide (O11.out.kept k20 hp1)
              have G20 := hide (G11.out.keptP k20)
              have B20 := hide (B11.out.trans (k20.below (B := w.heap.size) B11.out.size (fun b hb e => by omega)))
              clear s20 k20 S11 O11 G11 B11
              by_cases m0 : m = 0
              · subst m0
                go_wp2_with fail
                refine (bentLay_e w.heap.size zs _ w20 S20.out HU.out (by omega) (by omega)).mono ?_
                rintro r w21 ⟨es, av, cv, rfl, hgo, hle, hsm, hG, s21, k21⟩
                have O21 := hide (O20.out.kept k21 hp1)
                have B21 := hide (B20.out.trans (k21.below (B := w.heap.size) B20.out.size (fun b hb e => by omega)))
                have R21 := hide hG.rd
                have GU := hide (show GoodU es from ⟨hle, hsm, hgo.good.symm⟩)
                clear hgo hle hsm hG s21 k21 S20 O20 G20 B20
                go_wp2_with fail
                exact bodyPost_ret (v := .tuple #[.slice va rs.length vc, .slice av es.length cv, .string (str y)]) (by simp [results, Tryz.results24, go_sem]) rfl ⟨rs.map Ly.es, va, vc, rs.length, es, av, cv, y, rfl, by rw [List.length_map], O21.out.rd, HGL.out, R21.out, GU.out, hyl, B21.out⟩
              · have m0' : ¬ (m : Int) = 0 := by omega
                by_cases m1 : m = 1
                · subst m1
                  go_wp2_with fail
                  refine (l7Layers_e w.heap.size zs _ w20 S20.out HU.out (by omega) (by omega)).mono ?_
                  rintro r w21 ⟨v, rs2, rfl, h5, hly, hO, s21, k21⟩
                  obtain ⟨av, cv, rfl⟩ := hO.shape
                  have B21 := hide (B20.out.trans (k21.below (B := w.heap.size) B20.out.size (fun b hb e => by omega)))
                  have G21 := hide (G20.out.keptP k21)
                  have R21 := hide hO.rd
                  have HG2 := hide (goodLs_of h5 hly)
                  clear h5 hly hO s21 k21 S20 O20 G20 B20
                  go_wp2_with fail
                  exact bodyPost_ret (v := .tuple #[.slice av rs2.length cv, .slice ua U.length uc, .string (str y)]) (by simp [results, Tryz.results24, go_sem]) rfl ⟨rs2.map Ly.es, av, cv, rs2.length, U, ua, uc, y, rfl, by rw [List.length_map], R21.out, HG2.out, G21.out.rd, goodU_right HRU.out, hyl, B21.out⟩
                · have m1' : ¬ (m : Int) = 1 := by omega
                  go_wp2_with fail
                  exact bodyPost_ret (v := .tuple #[.slice va rs.length vc, .slice ua U.length uc, .string (str y)]) (by simp [results, Tryz.results24, go_sem]) rfl ⟨rs.map Ly.es, va, vc, rs.length, U, ua, uc, y, rfl, by rw [List.length_map], O20.out.rd, HGL.out, G20.out.rd, goodU_right HRU.out, hyl, B20.out⟩
          · have hpos' : ¬ (0 : Int) < (ns.length : Int) := by omega
            go_wp2_with fail
            refine (next_e w.heap.size zs _ 16 _ S9.out HU.out (by omega) (by decide) (by decide) (by omega)).mono ?_
            rintro r w20 ⟨m, rfl, hm, s20, k20⟩
            have S20 := hide s20
            have O20 := hide (O9.out.kept k20 hp1)
            have G20 := hide (G9.out.keptP k20)
            have B20 := hide (B9.out.trans (k20.below (B := w.heap.size) B9.out.size (fun b hb e => by omega)))
            clear s20 k20 S9 O9 G9 B9
            by_cases m0 : m = 0
            · subst m0
              go_wp2_with fail
              refine (bentLay_e w.heap.size zs _ w20 S20.out HU.out (by omega) (by omega)).mono ?_
              rintro r w21 ⟨es, av, cv, rfl, hgo, hle, hsm, hG, s21, k21⟩
              have O21 := hide (O20.out.kept k21 hp1)
              have B21 := hide (B20.out.trans (k21.below (B := w.heap.size) B20.out.size (fun b hb e => by omega)))
              have R21 := hide hG.rd
              have GU := hide (show GoodU es from ⟨hle, hsm, hgo.good.symm⟩)
              clear hgo hle hsm hG s21 k21 S20 O20 G20 B20
              go_wp2_with fail
              exact bodyPost_ret (v := .tuple #[.slice va rs.length vc, .slice av es.length cv, .string (str q)]) (by simp [results, Tryz.results24, go_sem]) rfl ⟨rs.map Ly.es, va, vc, rs.length, es, av, cv, q, rfl, by rw [List.length_map], O21.out.rd, HGL.out, R21.out, GU.out, by omega, B21.out⟩
            · have m0' : ¬ (m : Int) = 0 := by omega
              by_cases m1 : m = 1
              · subst m1
                go_wp2_with fail
                refine (l7Layers_e w.heap.size zs _ w20 S20.out HU.out (by omega) (by omega)).mono ?_
                rintro r w21 ⟨v, rs2, rfl, h5, hly, hO, s21, k21⟩
                obtain ⟨av, cv, rfl⟩ := hO.shape
                have B21 := hide (B20.out.trans (k21.below (B := w.heap.size) B20.out.size (fun b hb e => by omega)))
                have G21 := hide (G20.out.keptP k21)
                have R21 := hide hO.rd
                have HG2 := hide (goodLs_of h5 hly)
                clear h5 hly hO s21 k21 S20 O20 G20 B20
                go_wp2_with fail
                exact bodyPost_ret (v := .tuple #[.slice av rs2.length cv, .slice ua U.length uc, .string (str q)]) (by simp [results, Tryz.results24, go_sem]) rfl ⟨rs2.map Ly.es, av, cv, rs2.length, U, ua, uc, q, rfl, by rw [List.length_map], R21.out, HG2.out, G21.out.rd, goodU_right HRU.out, by omega, B21.out⟩
              · have m1' : ¬ (m : Int) = 1 := by omega
                go_wp2_with fail
                exact bodyPost_ret (v := .tuple #[.slice va rs.length vc, .slice ua U.length uc, .string (str q)]) (by simp [results, Tryz.results24, go_sem]) rfl ⟨rs.map Ly.es, va, vc, rs.length, U, ua, uc, q, rfl, by rw [List.length_map], O20.out.rd, HGL.out, G20.out.rd, goodU_right HRU.out, by omega, B20.out⟩
end Go.Proofs.YtebgfaohhhgdpaaGreat

namespace Go.Proofs.YtebgfaohhhgdpaaGreat
open Go.RowKit Go.Maps
set_option linter.unusedVariables false
attribute [local go_sem ↓] Go.wp_at_zero Go.wp_at_succ

set_option maxRecDepth 100000 in
set_option maxHeartbeats 3200000 in
theorem drawWriteOver_any (a : Option Addr) (cap : Nat) (zs : List Int) (w : World) (h : Reads .u8 w a zs) (hu : U8 zs) (hl : zs.length ≤ 1048576) :
    Calls Tryz.prog 6 #[.slice a zs.length cap] w fun r w' => ∃ (ls : List (List En)) (av : Option Addr) (cv n : Nat) (U : List En) (ua : Option Addr) (uc : Nat) (q : Bs) (da : Option Addr) (dc : Nat) (ds : List Int), r = .returned (.tuple #[.slice av n cv, .slice ua U.length uc, .string (str q), .slice da ds.length dc]) ∧ n = ls.length ∧ RdL w' av ls ∧ GoodLs ls ∧ RdE w' ua U ∧ GoodU U ∧ q.length ≤ 1048576 ∧ ds.length ≤ 25 ∧ U8 ds ∧ Reads .u8 w' da ds ∧ ds.length ≤ dc ∧ Below w.heap.size w w' := by
  obtain ⟨i0, hi0, hz0, hz1, hz2⟩ := info_parts Tryz.infoU8
  have HC := hide (l9Mount_any a cap zs w h hu hl)
  have HR := hide h
  have HU := hide hu
  clear h hu
  go_enter Tryz.func6, Tryz.ntmps6
  go_wp2_with fail
  refine HC.out.mono ?_
  rintro r w2 ⟨ls, av, cv, n, U, ua, uc, q, rfl, hn, h1, h2, h3, h4, h5, hb⟩
  have HN := hide hn
  have H1 := hide h1
  have H2 := hide h2
  have H3 := hide h3
  have H4 := hide h4
  have H5 := hide h5
  have B2 := hide hb
  have hs2 := hb.size
  clear hn h1 h2 h3 h4 h5 hb HC
  have RD := hide ((HR.out.below B2.out).below (below_alloc w2 (.cells #[.int .u8 4] 5)))
  have OWN := hide (row_one w2 4)
  have hm1 : 1 + zs.length ≤ maxLen := by unfold maxLen; omega
  have hm2 : (1 + zs.length) * 1 ≤ 140737488355328 := by omega
  go_wp2_with (at_builtin; refine wpList_append_take rfl (.tmp 18) (.tmp 19) 22 rfl w2.heap.size 5 i0 .u8 1 Tryz.underlying22 hi0 hz0 hz1 hz2 w2.heap.size 1 1 [4] rfl OWN.out a zs.length cap zs rfl rfl RD.out (1 + zs.length) rfl hm1 hm2 (by simp) ?_; intro ev ec w3 hown3 hk3; have O3 := hide hown3; have BB3 := hide ((below_alloc w2 (.cells #[.int .u8 4] 5)).trans (hk3.below (B := w2.heap.size) (by simp) (fun b hb e => by have : b = w2.heap.size := e; omega))); clear hown3 hk3)
  have hle2 : ([4] ++ zs).length = 1 + zs.length := by simp; omega
  have RD3 := hide (ownInts_reads (zs := [4] ++ zs) O3.out hle2.symm)
  have HU4 := hide (show U8 ([4] ++ zs) from fun z hz => by
    rcases List.mem_append.1 hz with hz | hz
    · simp only [List.mem_singleton] at hz; subst hz; omega
    · exact HU.out z hz)
  rw [← hle2]
  refine (l1Data_big ev ec ([4] ++ zs) _ RD3.out HU4.out (by rw [hle2]; omega)).mono ?_
  rintro e w4 ⟨v, ds, rfl, hdl, hdu, ho4, hb4⟩
  obtain ⟨da, dc, rfl⟩ := ownsRow_shape ho4
  have hcap := ownsRow_cap ho4
  have R4 := hide (ownInts_reads ho4 rfl)
  have BB4 := hide (below_next BB3.out hb4)
  have B4 := hide (below_next B2.out BB4.out)
  have H1' := hide (H1.out.below BB4.out)
  have H3' := hide (H3.out.below BB4.out)
  have DU := hide hdu
  clear ho4 hb4 hdu hle2 BB3
  go_wp2_with fail
  exact bodyPost_ret (v := .tuple #[.slice av n cv, .slice ua U.length uc, .string (str q), .slice da ds.length dc]) (by simp [results, Tryz.results6, go_sem]) rfl ⟨ls, av, cv, n, U, ua, uc, q, da, dc, ds, rfl, HN.out, H1'.out, H2.out, H3'.out, H4.out, H5.out, hdl, DU.out, R4.out, hcap, B4.out⟩
end Go.Proofs.YtebgfaohhhgdpaaGreat

