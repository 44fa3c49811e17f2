/-
  Texts put together: SnqL MntN MntO MntP MntR MntS DrawF MntU MntV SnqM SnqN SnqP SnqO.
-/
import Derived.Test.YtolnlfnndnpiiaaGreatKGrows19
import Derived.Test.YtolnlfnndnpiiaaGreatKGrows25
import Derived.Test.YtolnlfnndnpiiaaGreatKGrows24
import Derived.Test.YtolnlfnndnpiiaaGreatKGrows23
import Derived.Test.YtolnlfnndnpiiaaGreatKGrows9
import Derived.Test.YtolnlfnndnpiiaaGreatKGrows8
import Derived.Test.YtolnlfnndnpiiaaGreatKGrows17
import Derived.Test.YtolnlfnndnpiiaaGreatKGrows15
import Derived.Test.YtolnlfnndnpiiaaGreatKGrows18
import Derived.Test.YtolnlfnndnpiiaaGreatKGrows10
namespace Go.Proofs.YtolnlfnndnpiiaaGreat
open Go.RowKit Go.Maps
set_option linter.unusedVariables false
attribute [local go_sem ↓] Go.wp_at_zero Go.wp_at_succ

def Doing (ls : List (List En)) (U : List En) (p : Bs) (zs : List Int) (k q rep : Int) (V : List En) : Prop :=
  (k = 1 → FaceM (wovM (ls ++ [U]) p zs) (WrS (allE (ls ++ [U])) U p (fileE p zs)) q rep V) ∧ (k = 2 → FaceM (askL (ls ++ [U]) p) (MkS (allE (ls ++ [U])) U p) q rep V) ∧ (k = 3 → FaceM (askL (ls ++ [U]) p) (RmS ls (allE (ls ++ [U])) U p) q rep V)
theorem Doing.one {ls : List (List En)} {U : List En} {p : Bs} {zs : List Int} {q rep : Int} {V : List En} (h : FaceM (wovM (ls ++ [U]) p zs) (WrS (allE (ls ++ [U])) U p (fileE p zs)) q rep V) : Doing ls U p zs 1 q rep V := ⟨fun _ => h, fun e => absurd e (by decide), fun e => absurd e (by decide)⟩
theorem Doing.two {ls : List (List En)} {U : List En} {p : Bs} {zs : List Int} {q rep : Int} {V : List En} (h : FaceM (askL (ls ++ [U]) p) (MkS (allE (ls ++ [U])) U p) q rep V) : Doing ls U p zs 2 q rep V := ⟨fun e => absurd e (by decide), fun _ => h, fun e => absurd e (by decide)⟩
theorem Doing.three {ls : List (List En)} {U : List En} {p : Bs} {zs : List Int} {q rep : Int} {V : List En} (h : FaceM (askL (ls ++ [U]) p) (RmS ls (allE (ls ++ [U])) U p) q rep V) : Doing ls U p zs 3 q rep V := ⟨fun e => absurd e (by decide), fun e => absurd e (by decide), fun _ => h⟩
theorem GS.lay {B : Nat} {w : World} {g n c k : Nat} {l : List Sn} {s : Sn} {a2 : Option Addr} {c2 : Nat} {V : List En} (h : GS B w (.slice (some ⟨g, 0, none⟩) n c) l) (hs : l[k]? = some s) (hV : GW B w (.slice a2 V.length c2) V) : GS B (w.setCell ⟨g, k * 5 + 4, none⟩ (.slice a2 V.length c2)) (.slice (some ⟨g, 0, none⟩) n c) (l.set k ⟨s.name, s.parent, s.kind, s.lease, V⟩) := by
  obtain ⟨rs, h1, h2, h3⟩ := h
  have hk : k < l.length := (List.getElem?_eq_some_iff.1 hs).1
  have hl : rs.length = l.length := by rw [← h1, List.length_map]
  obtain ⟨r, hr⟩ : ∃ r, rs[k]? = some r := ⟨_, List.getElem?_eq_getElem (by omega)⟩
  have hrs : r.s = s := by
    have : (rs.map Rs.s)[k]? = some r.s := by rw [List.getElem?_map, hr]; rfl
    rw [h1, hs] at this
    exact (Option.some.inj this).symm
  obtain ⟨m, c', e⟩ := ownsRow_shape h2
  simp only [Value.slice.injEq] at e
  obtain ⟨-, rfl, -⟩ := e
  have s1 := (h2.stored (k * 5 + 4) (.slice a2 V.length c2)).1
  rw [rowN_setq rs k 4 r ⟨⟨s.name, s.parent, s.kind, s.lease, V⟩, a2, c2⟩ _ hr (by decide) (by rw [← hrs]; rfl)] at s1
  have hkp : Kept (fun b => (Value.slice (some ⟨g, 0, none⟩) l.length c).ownBlock = some b) w (w.setCell ⟨g, k * 5 + 4, none⟩ (.slice a2 V.length c2)) := Kept.setCell (S := fun b => (Value.slice (some ⟨g, 0, none⟩) l.length c).ownBlock = some b) (p := ⟨g, k * 5 + 4, none⟩) (Kept.refl _ _) (fun _ => rfl) _
  refine ⟨rs.set k ⟨⟨s.name, s.parent, s.kind, s.lease, V⟩, a2, c2⟩, by rw [List.map_set, h1], by rw [List.length_set]; exact s1, fun r0 hr0 => ?_⟩
  rcases List.mem_or_eq_of_mem_set hr0 with hr1 | rfl
  · exact (h3 r0 hr1).apart h2 (by decide) (by decide) hkp
  · exact hV.apart h2 (by decide) (by decide) hkp
theorem LL.last {B : Nat} {w : World} {g n c : Nat} {ls : List (List En)} {U : List En} (h : LL B w (.slice (some ⟨g, 0, none⟩) n c) (ls ++ [U])) : ∃ xa xc, w.cell? ⟨g, ls.length, none⟩ = some (.slice xa U.length xc) ∧ RdE w xa U ∧ RdL w (some ⟨g, 0, none⟩) ls ∧ g < w.heap.size := by
  have hrd := h.rd
  obtain ⟨b, off, A, C, e, hb, hc⟩ := hrd (by simp)
  simp only [Option.some.injEq, Addr.mk.injEq, and_true] at e
  obtain ⟨rfl, rfl⟩ := e
  obtain ⟨c1, c2⟩ := hc ls.length U (by simp)
  rw [Nat.zero_add] at c1
  refine ⟨A ls.length, C ls.length, c1, c2, fun hz => ⟨g, 0, A, C, rfl, hb, fun i es hi => hc i es ?_⟩, hb⟩
  rw [List.getElem?_append_left (List.getElem?_eq_some_iff.1 hi).1]
  exact hi
set_option maxRecDepth 100000 in
set_option maxHeartbeats 6400000 in
theorem l12Write_any (a : Option Addr) (c n : Nat) (l : List Sn) (s : Sn) (j : Nat) (p : Bs) (zs : List Int) (d : Option Addr) (dn dc : Nat) (k : Int) (w : World) (h : RdS w a l) (hn : n = l.length) (hR : RightS l) (hs : SmallS l) (hq : l[j]? = some s) (hk : k = 1 ∨ k = 2 ∨ k = 3) (hpl : p.length ≤ 1048576) (hd : Reads .u8 w d zs) (hdn : dn = zs.length) (hu8 : U8 zs) (hdc : zs.length ≤ dc) (hdl : zs.length ≤ 1048576)
    (hw : ∀ q rep V, Doing (lwQ' l s) s.layer p zs k q rep V → IntKind.i64.wrap (q + rep) = q + rep) :
    Calls Tryz.prog 35 #[.slice a n c, .int .i64 j, .string (str p), .slice d dn dc, .int .i64 k] w fun r w' => ∃ q rep V, Doing (lwQ' l s) s.layer p zs k q rep V ∧ ((q + rep ≠ 0 ∧ ResM' 0 (q + rep) l w r w') ∨ (q + rep = 0 ∧ ResM' 0 0 (putN l ⟨s.name, s.parent, s.kind, s.lease, V⟩) w r w')) := by
  subst hn
  subst hdn
  have hl := hR.len
  have hmem := List.mem_of_getElem? hq
  have hjl := (List.getElem?_eq_some_iff.1 hq).1
  have X0 := hide (Box3.new w (.int .i64 0) (.int .i64 0) (.slice none 0 0) 28)
  have B0 := hide (below_alloc w (.cells #[.int .i64 0, .int .i64 0, .slice none 0 0] 28))
  have HCH := hide (l12Chain_any a c l.length l s s.name _ (h.below B0.out) rfl hR hs (atS_mem hR.rise hmem))
  rw [chain_low] at HCH
  have hK4 : (lwQ' l s).length + 1 ≤ 4 := by have := chainS_len hR hmem; rw [chain_low] at this; simpa using this
  have HSL := hide (show SmallL (lwQ' l s ++ [s.layer]) by
    rw [← chain_low]
    intro es hes
    unfold chainS at hes
    rw [List.mem_reverse, List.mem_map] at hes
    obtain ⟨y, hy, rfl⟩ := hes
    have hy2 := hs.2 y (lineS_mem (fun s0 hs0 => by cases hs0; exact hmem) y hy)
    exact ⟨hy2.2.2.1, hy2.2.2.2⟩)
  have HGL := hide (show ∀ es ∈ lwQ' l s ++ [s.layer], layFault es = layFaultP es by
    rw [← chain_low]
    intro es hes
    unfold chainS at hes
    rw [List.mem_reverse, List.mem_map] at hes
    obtain ⟨y, hy, rfl⟩ := hes
    have h9 := (hR.own y (lineS_mem (fun s0 hs0 => by cases hs0; exact hmem) y hy)).2.2
    rw [h9, right_E.2 (right_P.1 h9)])
  have HRd := hide h
  have HRI := hide hR.rise
  have HSM := hide hs
  have HQ := hide hq
  have HD := hide hd
  have HU8 := hide hu8
  have HWR := hide hw
  obtain ⟨b2, off2, e, x2, cc2, hbb, hb2, he, d0, -, -, -, -, -⟩ := (h.below B0.out).at hjl
  subst hbb
  have heq : e = s := by rw [hq] at he; exact (Option.some.inj he).symm
  subst heq
  have hj0 : ¬ (j : Int) < 0 := by omega
  have hj1 : (j : Int) < (l.length : Int) := by omega
  have hlen : (lwQ' l e ++ [e.layer]).length = (lwQ' l e).length + 1 := by simp
  rw [hlen] at HCH
  clear h hs hR hq hd hu8 hw he hlen
  generalize lwQ' l e = ls at *
  go_enter Tryz.func35, Tryz.ntmps35
  go_wp2_with fail
  have hsz0 : (w.alloc (.cells #[.int .i64 0, .int .i64 0, .slice none 0 0] 28)).heap.size = w.heap.size + 1 := by simp
  generalize w.alloc (.cells #[.int .i64 0, .int .i64 0, .slice none 0 0] 28) = W0 at *
  refine HCH.out.mono ?_
  rintro r w1 ⟨g, cv, rfl, hcv, hLL, hb1⟩
  have B1 := hide (below_next B0.out hb1)
  have X1 := hide (X0.out.below hb1)
  have hs1 := hb1.size
  obtain ⟨u, xc, hcell, hRU, hRL, hgl⟩ := hLL.last
  have RU := hide hRU
  have RL := hide hRL
  clear hb1 hLL hRU hRL d0
  have hwk : IntKind.i64.wrap ((ls.length : Int) + 1 - 1) = (ls.length : Int) := by simp [IntKind.wrap, IntKind.signed, IntKind.bits]; omega
  have hwk2 : IntKind.i64.wrap (ls.length : Int) = (ls.length : Int) := by simp [IntKind.wrap, IntKind.signed, IntKind.bits]; omega
  have hI0 : (0 : Int) ≤ (ls.length : Int) := by omega
  have hI1 : (ls.length : Int) ≤ (cv : Int) := by omega
  have hI2 : (ls.length : Int) < (ls.length : Int) + 1 := by omega
  have hI3 : ¬ (ls.length : Int) < 0 := by omega
  have BW := hide (below_alloc w1 (.cells #[.int .i64 0, .int .i64 0, .slice none 0 0] 64))
  have B2 := hide (below_next B1.out BW.out)
  have Y2 := hide (Box3.new w1 (.int .i64 0) (.int .i64 0) (.slice none 0 0) 64)
  have X2 := hide (X1.out.below BW.out)
  rcases hk with rfl | rfl | rfl
  · go_wp2_with fail
    have hs2 : (w1.alloc (.cells #[.int .i64 0, .int .i64 0, .slice none 0 0] 64)).heap.size = w1.heap.size + 1 := by simp
    generalize w1.alloc (.cells #[.int .i64 0, .int .i64 0, .slice none 0 0] 64) = W2 at *
    refine (specWriteOver_any (some ⟨g, 0, none⟩) cv ls.length ls u xc e.layer.length e.layer p zs d zs.length dc _ (RL.out.below BW.out) rfl (by omega) (RU.out.below BW.out) rfl HSL.out HGL.out hpl (HD.out.below B2.out) rfl HU8.out hdc hdl).mono ?_
    rintro r w3 ⟨q, rep, V, hF, av, cv3, rfl, hG3, hb3⟩
    have HF := hide (Doing.one (zs := zs) hF)
    have hwr := HWR.out q rep V HF.out
    have G3 := hide hG3
    have B3 := hide (below_next B2.out hb3)
    have X3 := hide (X2.out.below hb3)
    have Y3 := hide (Y2.out.below hb3)
    have hs3 := hb3.size
    clear hG3 hb3 hF
    obtain ⟨⟨y0, y1, y2⟩, y3, y4, y5⟩ := Y3.out
    have Y4 := hide (Y3.out.set (.int .i64 q) (.int .i64 rep) (.slice av V.length cv3))
    have K4 := hide (Kept.three' w3 w1.heap.size (.int .i64 q) (.int .i64 rep) (.slice av V.length cv3))
    have B4 := hide (B3.out.trans (K4.out.below B3.out.size (fun q hq e => by omega)))
    have X4 := hide (X3.out.kept K4.out (by omega))
    have G4 := hide ((G3.out.kept K4.out (fun b hb e => by omega)).mono (B' := w1.heap.size) (by omega))
    have hs4 := K4.out.size
    obtain ⟨⟨z0, z1, z2⟩, z3, z4, z5⟩ := Y4.out
    by_cases hz : q + rep = 0
    · have HZ := hide hz
      rw [hz] at hwr
      go_wp2_with fail
      clear hz hwr
      generalize ((w3.setCell ⟨w1.heap.size, 0, none⟩ (.int .i64 q)).setCell ⟨w1.heap.size, 1, none⟩ (.int .i64 rep)).setCell ⟨w1.heap.size, 2, none⟩ (.slice av V.length cv3) = W4 at *
      refine (l12Copy_any (some ⟨b2, off2, none⟩) c l.length l W4 (HRd.out.below B4.out) rfl (by omega) HSM.out).mono ?_
      rintro r w5 ⟨av5, cv5, rfl, hG5, hb5⟩
      have G5 := hide (hG5.mono (B' := w1.heap.size) (by omega))
      have B5 := hide (below_next B4.out hb5)
      have G6 := hide (G4.out.below hb5)
      have X5 := hide (X4.out.below hb5)
      have hs5 := hb5.size
      obtain ⟨⟨z0, z1, z2⟩, z3, z4, z5⟩ := Y4.out.below hb5
      obtain ⟨g5, hgv, hgB, hgl, hfz, r5, hrs5, hcl⟩ := hG5.at HQ.out
      subst hgv
      have hz2 : w5.cell? ⟨g5, j * 5 + 4, none⟩ = some (.slice r5.a r5.s.layer.length r5.c) := hcl 4 (by decide)
      have hf2 := hfz (j * 5 + 4)
      clear hG5 hb5 hcl hfz
      have GP := hide (G5.out.lay HQ.out G6.out)
      rw [← putN_set HRI.out HQ.out (s' := ⟨e.name, e.parent, e.kind, e.lease, V⟩) rfl] at GP
      have HLN := hide (show (putN l ⟨e.name, e.parent, e.kind, e.lease, V⟩).length = l.length by rw [putN_set HRI.out HQ.out (s' := ⟨e.name, e.parent, e.kind, e.lease, V⟩) rfl, List.length_set])
      have KS := hide (Kept.setCell (S := fun q => q = g5) (p := ⟨g5, j * 5 + 4, none⟩) (Kept.refl _ w5) (fun _ => rfl) (.slice av V.length cv3))
      have BP := hide (B5.out.trans (KS.out.below B5.out.size (fun q hq e => by omega)))
      obtain ⟨⟨t0, t1, t2⟩, t3, t4, t5⟩ := X5.out.kept KS.out (by omega)
      go_wp2_with fail
      exact bodyPost_ret (v := .agg #[.int .i64 0, .int .i64 0, .slice (some ⟨g5, 0, none⟩) l.length cv5]) (by simp [results, Tryz.results35, go_sem, t0, t1, t2]) rfl ⟨q, rep, V, HF.out, .inr ⟨HZ.out, ResM'.of (B := w1.heap.size) (by omega) (Nat.le_refl _) HLN.out.symm GP.out BP.out⟩⟩
    · have HZ := hide hz
      go_wp2_with fail
      generalize ((w3.setCell ⟨w1.heap.size, 0, none⟩ (.int .i64 q)).setCell ⟨w1.heap.size, 1, none⟩ (.int .i64 rep)).setCell ⟨w1.heap.size, 2, none⟩ (.slice av V.length cv3) = W4 at *
      refine (l12Reply_any (some ⟨b2, off2, none⟩) c l.length l (q + rep) W4 (HRd.out.below B4.out) rfl (by omega) HSM.out).mono ?_
      rintro r w9 ⟨av9, cv9, rfl, hG, hb9⟩
      have G9 := hide hG
      have B9 := hide (below_next B4.out hb9)
      obtain ⟨⟨t0, t1, t2⟩, t3, t4, t5⟩ := X4.out.below hb9
      clear hG hb9
      go_wp2_with fail
      exact bodyPost_ret (v := .agg #[.int .i64 0, .int .i64 (q + rep), .slice av9 l.length cv9]) (by simp [results, Tryz.results35, go_sem, t0, t1, t2]) rfl ⟨q, rep, V, HF.out, .inl ⟨HZ.out, ResM'.of (B := W4.heap.size) (by omega) (Nat.le_refl _) rfl G9.out B9.out⟩⟩
  · go_wp2_with fail
    have hs2 : (w1.alloc (.cells #[.int .i64 0, .int .i64 0, .slice none 0 0] 64)).heap.size = w1.heap.size + 1 := by simp
    generalize w1.alloc (.cells #[.int .i64 0, .int .i64 0, .slice none 0 0] 64) = W2 at *
    refine (specMakeOver_any (some ⟨g, 0, none⟩) cv ls.length ls u xc e.layer.length e.layer p _ (RL.out.below BW.out) rfl (by omega) (RU.out.below BW.out) rfl HSL.out HGL.out hpl).mono ?_
    rintro r w3 ⟨q, rep, V, hF, av, cv3, rfl, hG3, hb3⟩
    have HF := hide (Doing.two (zs := zs) hF)
    have hwr := HWR.out q rep V HF.out
    have G3 := hide hG3
    have B3 := hide (below_next B2.out hb3)
    have X3 := hide (X2.out.below hb3)
    have Y3 := hide (Y2.out.below hb3)
    have hs3 := hb3.size
    clear hG3 hb3 hF
    obtain ⟨⟨y0, y1, y2⟩, y3, y4, y5⟩ := Y3.out
    have Y4 := hide (Y3.out.set (.int .i64 q) (.int .i64 rep) (.slice av V.length cv3))
    have K4 := hide (Kept.three' w3 w1.heap.size (.int .i64 q) (.int .i64 rep) (.slice av V.length cv3))
    have B4 := hide (B3.out.trans (K4.out.below B3.out.size (fun q hq e => by omega)))
    have X4 := hide (X3.out.kept K4.out (by omega))
    have G4 := hide ((G3.out.kept K4.out (fun b hb e => by omega)).mono (B' := w1.heap.size) (by omega))
    have hs4 := K4.out.size
    obtain ⟨⟨z0, z1, z2⟩, z3, z4, z5⟩ := Y4.out
    by_cases hz : q + rep = 0
    · have HZ := hide hz
      rw [hz] at hwr
      go_wp2_with fail
      clear hz hwr
      generalize ((w3.setCell ⟨w1.heap.size, 0, none⟩ (.int .i64 q)).setCell ⟨w1.heap.size, 1, none⟩ (.int .i64 rep)).setCell ⟨w1.heap.size, 2, none⟩ (.slice av V.length cv3) = W4 at *
      refine (l12Copy_any (some ⟨b2, off2, none⟩) c l.length l W4 (HRd.out.below B4.out) rfl (by omega) HSM.out).mono ?_
      rintro r w5 ⟨av5, cv5, rfl, hG5, hb5⟩
      have G5 := hide (hG5.mono (B' := w1.heap.size) (by omega))
      have B5 := hide (below_next B4.out hb5)
      have G6 := hide (G4.out.below hb5)
      have X5 := hide (X4.out.below hb5)
      have hs5 := hb5.size
      obtain ⟨⟨z0, z1, z2⟩, z3, z4, z5⟩ := Y4.out.below hb5
      obtain ⟨g5, hgv, hgB, hgl, hfz, r5, hrs5, hcl⟩ := hG5.at HQ.out
      subst hgv
      have hz2 : w5.cell? ⟨g5, j * 5 + 4, none⟩ = some (.slice r5.a r5.s.layer.length r5.c) := hcl 4 (by decide)
      have hf2 := hfz (j * 5 + 4)
      clear hG5 hb5 hcl hfz
      have GP := hide (G5.out.lay HQ.out G6.out)
      rw [← putN_set HRI.out HQ.out (s' := ⟨e.name, e.parent, e.kind, e.lease, V⟩) rfl] at GP
      have HLN := hide (show (putN l ⟨e.name, e.parent, e.kind, e.lease, V⟩).length = l.length by rw [putN_set HRI.out HQ.out (s' := ⟨e.name, e.parent, e.kind, e.lease, V⟩) rfl, List.length_set])
      have KS := hide (Kept.setCell (S := fun q => q = g5) (p := ⟨g5, j * 5 + 4, none⟩) (Kept.refl _ w5) (fun _ => rfl) (.slice av V.length cv3))
      have BP := hide (B5.out.trans (KS.out.below B5.out.size (fun q hq e => by omega)))
      obtain ⟨⟨t0, t1, t2⟩, t3, t4, t5⟩ := X5.out.kept KS.out (by omega)
      go_wp2_with fail
      exact bodyPost_ret (v := .agg #[.int .i64 0, .int .i64 0, .slice (some ⟨g5, 0, none⟩) l.length cv5]) (by simp [results, Tryz.results35, go_sem, t0, t1, t2]) rfl ⟨q, rep, V, HF.out, .inr ⟨HZ.out, ResM'.of (B := w1.heap.size) (by omega) (Nat.le_refl _) HLN.out.symm GP.out BP.out⟩⟩
    · have HZ := hide hz
      go_wp2_with fail
      generalize ((w3.setCell ⟨w1.heap.size, 0, none⟩ (.int .i64 q)).setCell ⟨w1.heap.size, 1, none⟩ (.int .i64 rep)).setCell ⟨w1.heap.size, 2, none⟩ (.slice av V.length cv3) = W4 at *
      refine (l12Reply_any (some ⟨b2, off2, none⟩) c l.length l (q + rep) W4 (HRd.out.below B4.out) rfl (by omega) HSM.out).mono ?_
      rintro r w9 ⟨av9, cv9, rfl, hG, hb9⟩
      have G9 := hide hG
      have B9 := hide (below_next B4.out hb9)
      obtain ⟨⟨t0, t1, t2⟩, t3, t4, t5⟩ := X4.out.below hb9
      clear hG hb9
      go_wp2_with fail
      exact bodyPost_ret (v := .agg #[.int .i64 0, .int .i64 (q + rep), .slice av9 l.length cv9]) (by simp [results, Tryz.results35, go_sem, t0, t1, t2]) rfl ⟨q, rep, V, HF.out, .inl ⟨HZ.out, ResM'.of (B := W4.heap.size) (by omega) (Nat.le_refl _) rfl G9.out B9.out⟩⟩
  · go_wp2_with fail
    have hs2 : (w1.alloc (.cells #[.int .i64 0, .int .i64 0, .slice none 0 0] 64)).heap.size = w1.heap.size + 1 := by simp
    generalize w1.alloc (.cells #[.int .i64 0, .int .i64 0, .slice none 0 0] 64) = W2 at *
    refine (specRemoveOver_any (some ⟨g, 0, none⟩) cv ls.length ls u xc e.layer.length e.layer p _ (RL.out.below BW.out) rfl (by omega) (RU.out.below BW.out) rfl HSL.out HGL.out hpl).mono ?_
    rintro r w3 ⟨q, rep, V, hF, av, cv3, rfl, hG3, hb3⟩
    have HF := hide (Doing.three (zs := zs) hF)
    have hwr := HWR.out q rep V HF.out
    have G3 := hide hG3
    have B3 := hide (below_next B2.out hb3)
    have X3 := hide (X2.out.below hb3)
    have Y3 := hide (Y2.out.below hb3)
    have hs3 := hb3.size
    clear hG3 hb3 hF
    obtain ⟨⟨y0, y1, y2⟩, y3, y4, y5⟩ := Y3.out
    have Y4 := hide (Y3.out.set (.int .i64 q) (.int .i64 rep) (.slice av V.length cv3))
    have K4 := hide (Kept.three' w3 w1.heap.size (.int .i64 q) (.int .i64 rep) (.slice av V.length cv3))
    have B4 := hide (B3.out.trans (K4.out.below B3.out.size (fun q hq e => by omega)))
    have X4 := hide (X3.out.kept K4.out (by omega))
    have G4 := hide ((G3.out.kept K4.out (fun b hb e => by omega)).mono (B' := w1.heap.size) (by omega))
    have hs4 := K4.out.size
    obtain ⟨⟨z0, z1, z2⟩, z3, z4, z5⟩ := Y4.out
    by_cases hz : q + rep = 0
    · have HZ := hide hz
      rw [hz] at hwr
      go_wp2_with fail
      clear hz hwr
      generalize ((w3.setCell ⟨w1.heap.size, 0, none⟩ (.int .i64 q)).setCell ⟨w1.heap.size, 1, none⟩ (.int .i64 rep)).setCell ⟨w1.heap.size, 2, none⟩ (.slice av V.length cv3) = W4 at *
      refine (l12Copy_any (some ⟨b2, off2, none⟩) c l.length l W4 (HRd.out.below B4.out) rfl (by omega) HSM.out).mono ?_
      rintro r w5 ⟨av5, cv5, rfl, hG5, hb5⟩
      have G5 := hide (hG5.mono (B' := w1.heap.size) (by omega))
      have B5 := hide (below_next B4.out hb5)
      have G6 := hide (G4.out.below hb5)
      have X5 := hide (X4.out.below hb5)
      have hs5 := hb5.size
      obtain ⟨⟨z0, z1, z2⟩, z3, z4, z5⟩ := Y4.out.below hb5
      obtain ⟨g5, hgv, hgB, hgl, hfz, r5, hrs5, hcl⟩ := hG5.at HQ.out
      subst hgv
      have hz2 : w5.cell? ⟨g5, j * 5 + 4, none⟩ = some (.slice r5.a r5.s.layer.length r5.c) := hcl 4 (by decide)
      have hf2 := hfz (j * 5 + 4)
      clear hG5 hb5 hcl hfz
      have GP := hide (G5.out.lay HQ.out G6.out)
      rw [← putN_set HRI.out HQ.out (s' := ⟨e.name, e.parent, e.kind, e.lease, V⟩) rfl] at GP
      have HLN := hide (show (putN l ⟨e.name, e.parent, e.kind, e.lease, V⟩).length = l.length by rw [putN_set HRI.out HQ.out (s' := ⟨e.name, e.parent, e.kind, e.lease, V⟩) rfl, List.length_set])
      have KS := hide (Kept.setCell (S := fun q => q = g5) (p := ⟨g5, j * 5 + 4, none⟩) (Kept.refl _ w5) (fun _ => rfl) (.slice av V.length cv3))
      have BP := hide (B5.out.trans (KS.out.below B5.out.size (fun q hq e => by omega)))
      obtain ⟨⟨t0, t1, t2⟩, t3, t4, t5⟩ := X5.out.kept KS.out (by omega)
      go_wp2_with fail
      exact bodyPost_ret (v := .agg #[.int .i64 0, .int .i64 0, .slice (some ⟨g5, 0, none⟩) l.length cv5]) (by simp [results, Tryz.results35, go_sem, t0, t1, t2]) rfl ⟨q, rep, V, HF.out, .inr ⟨HZ.out, ResM'.of (B := w1.heap.size) (by omega) (Nat.le_refl _) HLN.out.symm GP.out BP.out⟩⟩
    · have HZ := hide hz
      go_wp2_with fail
      generalize ((w3.setCell ⟨w1.heap.size, 0, none⟩ (.int .i64 q)).setCell ⟨w1.heap.size, 1, none⟩ (.int .i64 rep)).setCell ⟨w1.heap.size, 2, none⟩ (.slice av V.length cv3) = W4 at *
      refine (l12Reply_any (some ⟨b2, off2, none⟩) c l.length l (q + rep) W4 (HRd.out.below B4.out) rfl (by omega) HSM.out).mono ?_
      rintro r w9 ⟨av9, cv9, rfl, hG, hb9⟩
      have G9 := hide hG
      have B9 := hide (below_next B4.out hb9)
      obtain ⟨⟨t0, t1, t2⟩, t3, t4, t5⟩ := X4.out.below hb9
      clear hG hb9
      go_wp2_with fail
      exact bodyPost_ret (v := .agg #[.int .i64 0, .int .i64 (q + rep), .slice av9 l.length cv9]) (by simp [results, Tryz.results35, go_sem, t0, t1, t2]) rfl ⟨q, rep, V, HF.out, .inl ⟨HZ.out, ResM'.of (B := W4.heap.size) (by omega) (Nat.le_refl _) rfl G9.out B9.out⟩⟩
end Go.Proofs.YtolnlfnndnpiiaaGreat

namespace Go.Proofs.YtolnlfnndnpiiaaGreat
set_option linter.unusedVariables false

theorem fold_mem {x : En} : ∀ {us : List Bs} {o : List En}, x ∈ us.foldl fillStep o → x ∈ o ∨ ∃ u ∈ us, x = dirQ u
  | [], o, h => .inl h
  | u :: us, o, h => by
    rcases fold_mem (us := us) (o := fillStep o u) h with h | ⟨v, hv, e⟩
    · unfold fillStep at h
      split at h
      · rcases mem_putE.1 h with h | ⟨h, -⟩
        · exact .inr ⟨u, List.mem_cons_self, h⟩
        · exact .inl h
      · exact .inl h
    · exact .inr ⟨v, List.mem_cons_of_mem _ hv, e⟩
theorem fold_same : ∀ {us : List Bs} {o : List En}, (∀ u ∈ us, findE o u ≠ none) → us.foldl fillStep o = o
  | [], o, h => rfl
  | u :: us, o, h => by
    have h1 : fillStep o u = o := by rw [fillStep, if_neg (h u List.mem_cons_self)]
    rw [List.foldl_cons, h1]
    exact fold_same (fun v hv => h v (List.mem_cons_of_mem _ hv))
theorem find_yes_of {es : List En} {x : En} (hx : x ∈ es) : findE es x.path ≠ none := by
  intro h
  have := List.find?_eq_none.1 h x hx
  simp at this
theorem ups_there {U : List En} (h : Fit U) {q : Bs} (hq : faultP q = 0) (hf : findE U q ≠ none) : ∀ u ∈ above q, findE U u ≠ none := by
  intro u hu
  cases hx : findE U q with
  | none => exact absurd hx hf
  | some x =>
    obtain ⟨hm, hp⟩ := find_mem hx
    rw [above_good hq] at hu
    obtain ⟨h1, h2⟩ := (above_iff hq).1 hu
    obtain ⟨d, hd, hdp, -⟩ := h.up h1 hm (by rw [hp]; exact h2)
    rw [← hdp]
    exact find_yes_of hd
theorem above_ne {q u : Bs} (hq : faultP q = 0) (hu : u ∈ above q) : u ≠ q := by
  intro e
  rw [above_good hq] at hu
  have := below_len ((above_iff hq).1 hu).2
  rw [e] at this
  omega
theorem fill_up {U : List En} (h : Fit U) {e : En} (hp : faultP e.path = 0) : fillS U e = if needsU U e = true then putE (fillS U (dirQ (parentP e.path))) e else putE U e := by
  have hk := above_kid hp rfl
  by_cases h0 : parentP e.path = []
  · rw [if_pos h0] at hk
    rw [fillS, hk, if_neg (by simp [needsU, h0])]
    rfl
  · rw [if_neg h0] at hk
    obtain ⟨hq, -⟩ := parent_above hp h0
    rw [fillS, hk, List.foldl_append, List.foldl_cons, List.foldl_nil]
    by_cases hf : findE U (parentP e.path) = none
    · rw [if_pos (by simp [needsU, h0, hf])]
      have h1 : findE ((above (parentP e.path)).foldl fillStep U) (parentP e.path) = none := find_none (fun x hx hxp => by
        rcases fold_mem hx with hx | ⟨u, hu, rfl⟩
        · exact find_yes_of hx (by rw [hxp]; exact hf)
        · exact above_ne hq hu hxp)
      rw [fillStep, if_pos h1]
      rfl
    · rw [if_neg (by cases hs : findE U (parentP e.path) with
        | none => exact absurd hs hf
        | some x => simp [needsU, hs])]
      rw [fold_same (ups_there h hq hf), fillStep, if_neg hf]
theorem bare_up {U : List En} (h : Fit U) {p : Bs} (hp : faultP p = 0) (h0 : parentP p ≠ []) (hf : findE U (parentP p) = none) : ∀ x ∈ U, x.path ≠ p ∧ belowB x.path p = false := by
  intro x hx
  obtain ⟨hq, hb⟩ := parent_above hp h0
  have key : belowB x.path (parentP p) = true → False := fun hxb => by
    obtain ⟨d, hd, hdp, -⟩ := h.up hq hx hxb
    exact find_yes_of hd (by rw [hdp]; exact hf)
  refine ⟨fun e => key (by rw [e]; exact hb), ?_⟩
  cases hxb : belowB x.path p with
  | false => rfl
  | true => exact absurd (below_trans hxb hb) (fun h => key h)
theorem put_more {D : List En} {e : En} (h : ∀ x ∈ D, x.path ≠ e.path ∧ belowB x.path e.path = false) : (putE D e).length = D.length + 1 := by
  rw [putE_len]
  congr 1
  rw [baseE, List.filter_eq_self.2]
  intro x hx
  obtain ⟨h1, h2⟩ := h x hx
  simp [keepE, h1, h2]
theorem put_code {D : List En} {e : En} (h : Right D) (he : entFault e = 0) (hh : homeP D e.path = true) : (putCodeP D e, putListP D e) = if (putE D e).length ≤ 12 then ((0 : Int), putE D e) else (2, []) := by
  have h1 : putCodeP D e = if 12 < (putE D e).length then 2 else 0 := by rw [putCodeP, if_pos (right_P.2 h), if_pos he, if_pos hh]
  by_cases hl : 12 < (putE D e).length
  · rw [if_neg (by omega), putListP, h1, if_pos hl]; rfl
  · rw [if_pos (by omega), putListP, h1, if_neg hl]; rfl
theorem filR_fill {U : List En} (h : Right U) : ∀ (n : Nat) (e : En), (above e.path).length = n → entFault e = 0 → (∀ u ∈ above e.path, ∀ x, findE U u = some x → dirK x.kind = true) → filR n U e = if (fillS U e).length ≤ 12 then (0, fillS U e) else (2, [])
  | n, e, hn, he, hd => by
    have hp := entFault_zero he
    have hF := (right_fit.1 h).1
    have hfu := fill_up hF hp
    have hk := above_kid hp rfl
    by_cases hu : needsU U e = true
    · rw [if_pos hu] at hfu
      have h0 : parentP e.path ≠ [] := by intro e0; simp [needsU, e0] at hu
      have hf : findE U (parentP e.path) = none := by
        cases hs : findE U (parentP e.path) with
        | none => rfl
        | some x => simp [needsU, hs] at hu
      rw [if_neg h0] at hk
      obtain ⟨hq, hb⟩ := parent_above hp h0
      cases n with
      | zero => exact absurd (parU_none hp hn) h0
      | succ n =>
        have ih := filR_fill h n (dirQ (parentP e.path)) (parN hp h0 hn) (dirE_right hq) (fun u hu2 x hx => hd u (by rw [hk]; exact List.mem_append_left _ hu2) x hx)
        by_cases hl : (fillS U (dirQ (parentP e.path))).length ≤ 12
        · rw [if_pos hl] at ih
          have hz : (filR n U (dirQ (parentP e.path))).1 = 0 := by rw [ih]
          have hR := (filR_zero hz).1
          rw [filR_put hu hz]
          rw [ih] at hR ⊢
          rw [hfu]
          exact put_code hR he (homeP_iff.2 (.inr ⟨dirQ (parentP e.path), mem_putE.2 (.inl rfl), rfl, rfl⟩))
        · rw [if_neg hl] at ih
          have hz : (filR n U (dirQ (parentP e.path))).1 ≠ 0 := by rw [ih]; decide
          rw [filR_bad hu hz, ih, if_neg]
          rw [hfu, put_more]
          · omega
          · intro x hx
            rcases mem_putE.1 hx with rfl | ⟨hx, -⟩
            · exact ⟨parent_ne hp h0, by
                cases hxb : belowB (parentP e.path) e.path with
                | false => exact hxb
                | true => have a1 := below_len hxb; have a2 := below_len hb; omega⟩
            · rcases fold_mem hx with hx | ⟨u, hu2, rfl⟩
              · exact bare_up hF hp h0 hf x hx
              · have hu3 : u ∈ above (parentP e.path) := hu2
                rw [above_good hq] at hu3
                have a1 := below_len ((above_iff hq).1 hu3).2
                have a2 := below_len hb
                refine ⟨fun e1 => ?_, ?_⟩
                · have e2 : u = e.path := e1
                  rw [e2] at a1
                  omega
                · cases hxb : belowB u e.path with
                  | false => exact hxb
                  | true => have a3 := below_len hxb; omega
    · have hu2 : needsU U e = false := by simpa using hu
      rw [if_neg hu] at hfu
      rw [filR_none hu2, hfu]
      refine put_code h he ?_
      by_cases h0 : parentP e.path = []
      · exact homeP_iff.2 (.inl h0)
      · cases hs : findE U (parentP e.path) with
        | none => simp [needsU, h0, hs] at hu
        | some x =>
          obtain ⟨hm, hxp⟩ := find_mem hs
          rw [if_neg h0] at hk
          exact homeP_iff.2 (.inr ⟨x, hm, hxp, hd _ (by rw [hk]; simp) x hs⟩)
end Go.Proofs.YtolnlfnndnpiiaaGreat

namespace Go.Proofs.YtolnlfnndnpiiaaGreat
set_option linter.unusedVariables false

theorem ups_dir {T : List En} (h : FitT T) {p : Bs} (hp : faultP p = 0) (hh : homeC T p = 0) : ∀ u ∈ above p, findE T u = some (dirQ u) := by
  have hk := above_kid hp rfl
  intro u hu
  by_cases h0 : parentP p = []
  · rw [if_pos h0] at hk; rw [hk] at hu; simp at hu
  · rw [if_neg h0] at hk
    obtain ⟨hq, -⟩ := parent_above hp h0
    have key : ∀ d ∈ T, dirK d.kind = true → d.path = u → findE T u = some (dirQ u) := fun d hd hdk hdp => by
      have h1 := rise_find h.fit.rise hd
      rw [hdp] at h1
      rw [h1]
      have hup : faultP u = 0 := by rw [← hdp]; exact h.fit.path hd
      have := asT_one (h.fit.ent d hd) (dirE_right hup) hdp hdk rfl
      rw [asT, if_neg (by rw [h.dir hd hdk]; decide)] at this
      exact congrArg some this
    cases hs : findE T (parentP p) with
    | none => rw [homeC_none h0 hs] at hh; cases hh
    | some d =>
      obtain ⟨hd, hdp⟩ := find_mem hs
      have hdk : dirK d.kind = true := by
        have h1 := h.kind d hd
        simp only [homeC, if_neg h0, hs] at hh
        simp only [treeK, decide_eq_true_eq] at h1
        rcases h1 with h1 | h1
        · rw [if_pos h1] at hh; cases hh
        · simp [dirK, h1]
      rw [hk] at hu
      rcases List.mem_append.1 hu with hu | hu
      · rw [above_good hq] at hu
        obtain ⟨h1, h2⟩ := (above_iff hq).1 hu
        obtain ⟨d2, hd2, hdp2, hdk2⟩ := h.fit.up h1 hd (by rw [hdp]; exact h2)
        exact key d2 hd2 hdk2 hdp2
      · simp only [List.mem_singleton] at hu
        exact key d hd hdk (by rw [hdp, hu])
theorem dirs_ok {t U : List En} (ht : FitT t) (hU : Fit U) {p : Bs} (hp : faultP p = 0) (hh : homeC (mergeE t U) p = 0) : ∀ u ∈ above p, ∀ x, findE U u = some x → dirK x.kind = true := by
  intro u hu x hx
  have h1 := ups_dir (merge_fit ht hU) hp hh u hu
  rw [merge_find ht hU, seeT_some hx] at h1
  by_cases h3 : x.kind = 3
  · rw [if_pos h3] at h1; cases h1
  · rw [if_neg h3] at h1
    have h2 : asT x = dirQ u := Option.some.inj h1
    have h4 : (asT x).kind = 2 := by rw [h2]; rfl
    rcases ent_kinds (hU.ent x (find_mem hx).1) with hk | hk | hk | hk
    · rw [asT, if_neg (by rw [hk]; decide), hk] at h4; cases h4
    · simp [dirK, hk]
    · exact absurd hk h3
    · simp [dirK, hk]
theorem fill_right {U : List En} (h : Right U) {e : En} (he : entFault e = 0) (hd : ∀ u ∈ above e.path, ∀ x, findE U u = some x → dirK x.kind = true) (hl : (fillS U e).length ≤ 12) : Right (fillS U e) := by
  have h1 := filR_fill h _ e rfl he hd
  rw [if_pos hl] at h1
  have h2 := (filR_zero (n := (above e.path).length) (U := U) (e := e) (by rw [h1])).1
  rwa [h1] at h2
end Go.Proofs.YtolnlfnndnpiiaaGreat

namespace Go.Proofs.YtolnlfnndnpiiaaGreat
set_option linter.unusedVariables false

theorem home_seen {T : List En} (h : FitT T) {p : Bs} {e : En} (hf : findE T p = some e) : homeC T p = 0 := by
  obtain ⟨hm, hp⟩ := find_mem hf
  rcases homeP_iff.1 (h.fit.home e hm) with h0 | ⟨d, hd, hdp, hdk⟩
  · rw [hp] at h0; exact homeC_top h0
  · rw [hp] at hdp
    have h1 := rise_find h.fit.rise hd
    rw [hdp] at h1
    by_cases h0 : parentP p = []
    · exact homeC_top h0
    · simp only [homeC, if_neg h0, h1]
      rw [if_neg (by rw [h.dir hd hdk]; decide)]
end Go.Proofs.YtolnlfnndnpiiaaGreat

namespace Go.Proofs.YtolnlfnndnpiiaaGreat
set_option linter.unusedVariables false

theorem dirF_ent {U : List En} {p : Bs} (hp : faultP p = 0) : entFault (dirF U p) = 0 ∧ (dirF U p).path = p ∧ asT (dirF U p) = dirE p ∧ (dirF U p).kind ≠ 3 := by
  have h4 : entFault (⟨p, 4, 0, []⟩ : En) = 0 := by
    rw [entFault_digs (e := ⟨p, 4, 0, []⟩) hp (by simp [formE]) (by simp [sizeE]) (by simp [manyE])]
    rfl
  have key : dirF U p = ⟨p, 4, 0, []⟩ ∨ dirF U p = ⟨p, 2, 0, []⟩ := by
    unfold dirF
    cases findE U p with
    | none => exact .inr rfl
    | some x =>
      by_cases hk : x.kind = 3
      · left; simp [hk]
      · right; simp [hk]
  rcases key with h | h <;> rw [h]
  · exact ⟨h4, rfl, by simp [asT, kindE, dirE], by simp⟩
  · exact ⟨dirE_right hp, rfl, by simp [asT, dirE], by simp⟩
end Go.Proofs.YtolnlfnndnpiiaaGreat

namespace Go.Proofs.YtolnlfnndnpiiaaGreat
set_option linter.unusedVariables false

def whiteQ (p : Bs) : En := ⟨p, 3, 0, []⟩
theorem whiteQ_ent {p : Bs} (hp : faultP p = 0) : entFault (whiteQ p) = 0 := by
  rw [entFault_digs (e := whiteQ p) hp (by simp [formE, whiteQ]) (by simp [sizeE, whiteQ]) (by simp [manyE, whiteQ])]
  rfl
end Go.Proofs.YtolnlfnndnpiiaaGreat

namespace Go.Proofs.YtolnlfnndnpiiaaGreat
open Go.RowKit Go.Maps
set_option linter.unusedVariables false
attribute [local go_sem ↓] Go.wp_at_zero Go.wp_at_succ


theorem fileE_right {p : Bs} {zs : List Int} (hp : faultP p = 0) (hl : zs.length ≤ 24) : entFault (fileE p zs) = 0 := by
  have h1 : formE (fileE p zs) = true := decide_eq_true ⟨by simp [fileE], .inl rfl⟩
  have h2 : sizeE (fileE p zs) = true := decide_eq_true (by simp [fileE]; omega)
  have h3 : manyE (fileE p zs) = true := decide_eq_true (by show ((digs zs (cut zs).length).length : Int) = ((zs.length : Int) + 7) / 8; rw [digs_len, cut_length]; omega)
  rw [entFault_digs hp h1 h2 h3, if_pos]
  rw [List.all_eq_true]
  intro z hz
  simp only [fileE, digs, List.mem_map] at hz
  obtain ⟨i, _, rfl⟩ := hz
  exact decide_eq_true (digest_range _)
end Go.Proofs.YtolnlfnndnpiiaaGreat

namespace Go.Proofs.YtolnlfnndnpiiaaGreat
set_option linter.unusedVariables false

theorem mal_tree {ls : List (List En)} (h : malC ls = 0) : RightT (allE ls) := by
  obtain ⟨h1, -, h3⟩ := mal_zero h
  exact rightT_fit.2 ⟨all_fit (rights_fit (layersP_zero.1 h1).2), h3⟩
theorem home_of_wr {T : List En} {p : Bs} (h : wrS T p = 0) : homeC T p = 0 := by
  by_cases hh : homeC T p = 0
  · exact hh
  · rw [wrS, if_neg hh] at h; exact h
theorem home_of_mk {T : List En} {p : Bs} (h : mkS T p = 0) : homeC T p = 0 := by
  by_cases hh : homeC T p = 0
  · exact hh
  · rw [mkS, if_neg hh] at h; exact h
end Go.Proofs.YtolnlfnndnpiiaaGreat

namespace Go.Proofs.YtolnlfnndnpiiaaGreat
set_option linter.unusedVariables false

theorem fills_right {O U : List En} {e : En} {rep : Int} {V : List En} (hO : Right O) (hU : Right U) (he : entFault e = 0) (hd : ∀ u ∈ above e.path, ∀ x, findE U u = some x → dirK x.kind = true) (h : FillsO O U e rep V) : Right V := by
  by_cases hl : 12 < (fillS U e).length
  · rw [(h.1 hl).2]; exact hO
  · rw [(h.2 hl).2]; exact fill_right hU he hd (by omega)
theorem lows_fit {ls : List (List En)} {U : List En} (hR : ∀ es ∈ ls ++ [U], Right es) : FitT (allE ls) ∧ Right U := ⟨all_fit (rights_fit fun es he => hR es (List.mem_append_left _ he)), hR U (by simp)⟩
theorem wr_right {ls : List (List En)} {U : List En} {p : Bs} {zs : List Int} {rep : Int} {V : List En} (hR : ∀ es ∈ ls ++ [U], Right es) (hp : faultP p = 0) (hzl : zs.length ≤ 24) (h : WrS (allE (ls ++ [U])) U p (fileE p zs) rep V) : Right V := by
  obtain ⟨ht, hU⟩ := lows_fit hR
  by_cases hw : wrS (allE (ls ++ [U])) p = 0
  · exact fills_right hU hU (fileE_right hp hzl) (dirs_ok ht (right_fit.1 hU).1 hp (by rw [← allE_snoc]; exact home_of_wr hw)) (h.yes hw)
  · rw [(h.no hw).2]; exact hU
theorem mk_right {ls : List (List En)} {U : List En} {p : Bs} {rep : Int} {V : List En} (hR : ∀ es ∈ ls ++ [U], Right es) (hp : faultP p = 0) (h : MkS (allE (ls ++ [U])) U p rep V) : Right V := by
  obtain ⟨ht, hU⟩ := lows_fit hR
  obtain ⟨he, hep, -, -⟩ := dirF_ent (U := U) hp
  by_cases hw : mkS (allE (ls ++ [U])) p = 0
  · exact fills_right hU hU he (by rw [hep]; exact dirs_ok ht (right_fit.1 hU).1 hp (by rw [← allE_snoc]; exact home_of_mk hw)) (h.yes hw)
  · rw [(h.no hw).2]; exact hU
theorem rm_right {ls : List (List En)} {U : List En} {p : Bs} {rep : Int} {V : List En} (hR : ∀ es ∈ ls ++ [U], Right es) (hp : faultP p = 0) (h : RmS ls (allE (ls ++ [U])) U p rep V) : Right V := by
  obtain ⟨ht, hU⟩ := lows_fit hR
  have hr := right_restE hU hp
  by_cases hw : rmS (allE (ls ++ [U])) p = 0
  · cases hs : findE (allE (ls ++ [restE U p true])) p with
    | none => rw [(h.gone hw hs).2]; exact hr
    | some x =>
      have hT : FitT (allE (ls ++ [restE U p true])) := by rw [allE_snoc]; exact merge_fit ht (right_fit.1 hr).1
      have hh := home_seen hT hs
      rw [allE_snoc] at hh
      exact fills_right hU hr (whiteQ_ent hp) (dirs_ok ht (right_fit.1 hr).1 hp hh) (h.white hw (by rw [hs]; simp))
  · rw [(h.no hw).2]; exact hU
end Go.Proofs.YtolnlfnndnpiiaaGreat

namespace Go.Proofs.YtolnlfnndnpiiaaGreat
open Go.RowKit Go.Maps
set_option linter.unusedVariables false
attribute [local go_sem ↓] Go.wp_at_zero Go.wp_at_succ

theorem homeC_small (T : List En) (p : Bs) : 0 ≤ homeC T p ∧ homeC T p ≤ 9 := by
  unfold homeC
  split
  · omega
  · split
    · omega
    · split <;> omega
theorem fills_small {O U : List En} {e : En} {rep : Int} {V : List En} (h : FillsO O U e rep V) : 0 ≤ rep ∧ rep ≤ 9 := by
  by_cases hb : 12 < (fillS U e).length
  · have := (h.1 hb).1; omega
  · have := (h.2 hb).1; omega
theorem wrS_small {T U : List En} {p : Bs} {e : En} {rep : Int} {V : List En} (h : WrS T U p e rep V) : 0 ≤ rep ∧ rep ≤ 9 := by
  have hh := homeC_small T p
  by_cases h0 : wrS T p = 0
  · exact fills_small (h.yes h0)
  · rw [(h.no h0).1]
    unfold wrS
    split
    · split
      · split <;> omega
      · omega
    · omega
theorem mkS_small {T U : List En} {p : Bs} {rep : Int} {V : List En} (h : MkS T U p rep V) : 0 ≤ rep ∧ rep ≤ 9 := by
  have hh := homeC_small T p
  by_cases h0 : mkS T p = 0
  · exact fills_small (h.yes h0)
  · rw [(h.no h0).1]
    unfold mkS
    split
    · split <;> omega
    · omega
theorem rmS_small {ls : List (List En)} {T U : List En} {p : Bs} {rep : Int} {V : List En} (h : RmS ls T U p rep V) : 0 ≤ rep ∧ rep ≤ 9 := by
  by_cases h0 : rmS T p = 0
  · by_cases hg : findE (allE (ls ++ [restE U p true])) p = none
    · have := (h.gone h0 hg).1; omega
    · exact fills_small (h.white h0 hg)
  · rw [(h.no h0).1]
    unfold rmS
    split
    · omega
    · split
      · split <;> omega
      · omega
theorem faultN_small : ∀ ns : List Bs, 0 ≤ faultN ns ∧ faultN ns ≤ 9 := by
  intro ns
  unfold faultN
  repeat' split
  all_goals omega
theorem faultP_small (p : Bs) : 0 ≤ faultP p ∧ faultP p ≤ 9 := by
  unfold faultP
  split
  · omega
  · split
    · exact faultN_small _
    · omega
theorem layers_of_right {l : List Sn} (h : RightS l) {s : Sn} (hs : s ∈ l) : layersP (lwQ' l s ++ [s.layer]) = 0 := by
  rw [← chain_low]
  refine layersP_zero.2 ⟨chainS_len h hs, fun es he => ?_⟩
  unfold chainS at he
  rw [List.mem_reverse, List.mem_map] at he
  obtain ⟨y, hy, rfl⟩ := he
  exact right_P.1 (h.own y (lineS_mem (fun s0 hs0 => by cases hs0; exact hs) y hy)).2.2
theorem doing_small {l : List Sn} (h : RightS l) {s : Sn} (hs : s ∈ l) {p : Bs} {zs : List Int} {k q rep : Int} {V : List En} (hk : k = 1 ∨ k = 2 ∨ k = 3) (hD : Doing (lwQ' l s) s.layer p zs k q rep V) : 0 ≤ q ∧ q ≤ 9 ∧ 0 ≤ rep ∧ rep ≤ 9 := by
  have hl := layers_of_right h hs
  have ha : askL (lwQ' l s ++ [s.layer]) p = faultP p := by unfold askL; rw [if_pos hl]
  have hf := faultP_small p
  rcases hk with rfl | rfl | rfl
  · have hF := hD.1 rfl
    have hw : 0 ≤ wovM (lwQ' l s ++ [s.layer]) p zs ∧ wovM (lwQ' l s ++ [s.layer]) p zs ≤ 9 := by
      unfold wovM
      rw [ha]
      split
      · split <;> omega
      · exact hf
    by_cases h0 : wovM (lwQ' l s ++ [s.layer]) p zs = 0
    · obtain ⟨h1, h2⟩ := hF.good h0
      have := wrS_small h2; omega
    · obtain ⟨h1, h2, -⟩ := hF.bad h0
      omega
  · have hF := hD.2.1 rfl
    rw [ha] at hF
    by_cases h0 : faultP p = 0
    · obtain ⟨h1, h2⟩ := hF.good h0
      have := mkS_small h2; omega
    · obtain ⟨h1, h2, -⟩ := hF.bad h0
      omega
  · have hF := hD.2.2 rfl
    rw [ha] at hF
    by_cases h0 : faultP p = 0
    · obtain ⟨h1, h2⟩ := hF.good h0
      have := rmS_small h2; omega
    · obtain ⟨h1, h2, -⟩ := hF.bad h0
      omega
theorem doing_wrap {l : List Sn} (h : RightS l) {s : Sn} (hs : s ∈ l) {p : Bs} {zs : List Int} {k q rep : Int} {V : List En} (hk : k = 1 ∨ k = 2 ∨ k = 3) (hD : Doing (lwQ' l s) s.layer p zs k q rep V) : IntKind.i64.wrap (q + rep) = q + rep := by
  have := doing_small h hs hk hD
  simp [IntKind.wrap, IntKind.signed, IntKind.bits]; omega
set_option maxRecDepth 100000 in
set_option maxHeartbeats 3200000 in
theorem specWriteSnap_ok (a : Option Addr) (c n : Nat) (l : List Sn) (nm p : Bs) (zs : List Int) (d : Option Addr) (dn dc : Nat) (k : Int) (w : World) (h : RdS w a l) (hn : n = l.length) (hR : RightS l) (hs : SmallS l) (hk3 : k = 1 ∨ k = 2 ∨ k = 3) (hpl : p.length ≤ 1048576) (hd : Reads .u8 w d zs) (hdn : dn = zs.length) (hu8 : U8 zs) (hdc : zs.length ≤ dc) (hdl : zs.length ≤ 1048576) :
    Calls Tryz.prog 8 #[.slice a n c, .string (str nm), .string (str p), .slice d dn dc, .int .i64 k] w fun r w' => (atS l nm = none ∧ ResM' 0 4 l w r w') ∨ ∃ t, atS l nm = some t ∧ ((t.kind = 2 ∧ ResM' 0 10 l w r w') ∨ (t.kind ≠ 2 ∧ ∃ q rep V, Doing (lwQ' l t) t.layer p zs k q rep V ∧ ((q + rep ≠ 0 ∧ ResM' 0 (q + rep) l w r w') ∨ (q + rep = 0 ∧ ResM' 0 0 (putN l ⟨t.name, t.parent, t.kind, t.lease, V⟩) w r w')))) := by
  subst hn
  have hl := hR.len
  have X0 := hide (Box3.new w (.int .i64 0) (.int .i64 0) (.slice none 0 0) 28)
  have B0 := hide (below_alloc w (.cells #[.int .i64 0, .int .i64 0, .slice none 0 0] 28))
  have HC := hide (l12Fault_any a c l.length l _ (h.below B0.out) rfl (by omega) hs)
  rw [hR.good] at HC
  have HRd := hide h
  have HRI := hide hR.rise
  have HSM := hide hs
  have HW := hide (fun (u : World) (j : Nat) (s : Sn) (hb : Below w.heap.size w u) (hq : l[j]? = some s) => l12Write_any a c l.length l s j p zs d dn dc k u (h.below hb) rfl hR hs hq hk3 hpl (hd.below hb) hdn hu8 hdc hdl (fun q rep V hD => doing_wrap hR (List.mem_of_getElem? hq) hk3 hD))
  have HI := hide (fun u : World => l1In_yes k 1 3 u (by omega) (by omega))
  clear h hs hR hd hdn
  go_enter Tryz.func8, Tryz.ntmps8
  go_wp2_with fail
  have hsz0 : (w.alloc (.cells #[.int .i64 0, .int .i64 0, .slice none 0 0] 28)).heap.size = w.heap.size + 1 := by simp
  generalize w.alloc (.cells #[.int .i64 0, .int .i64 0, .slice none 0 0] 28) = W0 at *
  refine HC.out.mono ?_
  rintro r w1 ⟨rfl, hb1⟩
  have B1 := hide (below_next B0.out hb1)
  have X1 := hide (X0.out.below hb1)
  have hs1 := hb1.size
  clear hb1
  go_wp2_with fail
  refine (HI.out _).mono ?_
  rintro r w1b ⟨rfl, hw1b⟩
  have hw1c := hw1b.symm
  subst hw1c
  go_wp2_with fail
  refine (l12At_any a c l.length l nm w1 (HRd.out.below B1.out) rfl (by omega)).mono ?_
  rintro r w2 ⟨rfl, hw2⟩
  subst hw2
  cases hp : plS l nm with
  | none =>
    have HN := hide (plS_none hp)
    clear hp
    simp only [placeI]
    go_wp2_with fail
    refine (l12Reply_any a c l.length l 4 w2 (HRd.out.below B1.out) rfl (by omega) HSM.out).mono ?_
    rintro r w9 ⟨av, cv, rfl, hG, hb9⟩
    have G9 := hide hG
    have B9 := hide (below_next B1.out hb9)
    obtain ⟨⟨t0, t1, t2⟩, t3, t4, t5⟩ := X1.out.below hb9
    clear hG hb9
    go_wp2_with fail
    exact bodyPost_ret (v := .agg #[.int .i64 0, .int .i64 4, .slice av l.length cv]) (by simp [results, Tryz.results8, go_sem, t0, t1, t2]) rfl (.inl ⟨HN.out, ResM'.of (B := w2.heap.size) (by omega) (Nat.le_refl _) rfl G9.out B9.out⟩)
  | some j =>
    obtain ⟨s, hq, hat⟩ := plS_at hp
    have hjl := (List.getElem?_eq_some_iff.1 hq).1
    obtain ⟨b2, off2, e, x2, cc2, hbb, hb2, he, d0, d1, d2, d3, d4, hr2⟩ := (HRd.out.below B1.out).at hjl
    subst hbb
    have heq : e = s := by rw [hq] at he; exact (Option.some.inj he).symm
    subst heq
    have HAT := hide hat
    have HQ := hide hq
    have hj0 : ¬ (j : Int) < 0 := by omega
    have hj1 : (j : Int) < (l.length : Int) := by omega
    clear hp hq hat he hr2
    simp only [placeI]
    by_cases hk : e.kind = 2
    · have hkb : (e.kind == 2) = true := by simp [hk]
      have HK := hide hk
      clear hk
      go_wp2_with fail
      refine (l12Reply_any _ c l.length l 10 w2 (HRd.out.below B1.out) rfl (by omega) HSM.out).mono ?_
      rintro r w9 ⟨av, cv, rfl, hG, hb9⟩
      have G9 := hide hG
      have B9 := hide (below_next B1.out hb9)
      obtain ⟨⟨t0, t1, t2⟩, t3, t4, t5⟩ := X1.out.below hb9
      clear hG hb9
      go_wp2_with fail
      exact bodyPost_ret (v := .agg #[.int .i64 0, .int .i64 10, .slice av l.length cv]) (by simp [results, Tryz.results8, go_sem, t0, t1, t2]) rfl (.inr ⟨e, HAT.out, .inl ⟨HK.out, ResM'.of (B := w2.heap.size) (by omega) (Nat.le_refl _) rfl G9.out B9.out⟩⟩)
    · have hkb : (e.kind == 2) = false := by simp [hk]
      have HK := hide hk
      clear hk
      go_wp2_with fail
      refine (HW.out w2 j e B1.out HQ.out).mono ?_
      rintro r w3 ⟨q, rep, V, hD, hres⟩
      have HDo := hide hD
      clear hD
      rcases hres with ⟨hz, av, cv, rfl, hG, hb3⟩ | ⟨hz, av, cv, rfl, hG, hb3⟩
      · have HZ := hide hz
        have G9 := hide hG
        have B9 := hide (below_next B1.out hb3)
        obtain ⟨⟨t0, t1, t2⟩, t3, t4, t5⟩ := X1.out.below hb3
        obtain ⟨x, hx⟩ : ∃ x, x = q + rep := ⟨_, rfl⟩
        rw [← hx]
        have HX := hide hx
        clear hG hb3 hz hx
        go_wp2_with fail
        exact bodyPost_ret (v := .agg #[.int .i64 0, .int .i64 x, .slice av l.length cv]) (by simp [results, Tryz.results8, go_sem, t0, t1, t2]) rfl (.inr ⟨e, HAT.out, .inr ⟨HK.out, q, rep, V, HDo.out, .inl ⟨HZ.out, by rw [← HX.out]; exact ResM'.of (B := w2.heap.size) (by omega) (Nat.le_refl _) rfl G9.out B9.out⟩⟩⟩)
      · have HZ := hide hz
        obtain ⟨R, hR'⟩ : ∃ R, R = putN l ⟨e.name, e.parent, e.kind, e.lease, V⟩ := ⟨_, rfl⟩
        rw [← hR'] at hG ⊢
        have HRR := hide hR'
        have G9 := hide hG
        have B9 := hide (below_next B1.out hb3)
        obtain ⟨⟨t0, t1, t2⟩, t3, t4, t5⟩ := X1.out.below hb3
        clear hG hb3 hz hR'
        go_wp2_with fail
        exact bodyPost_ret (v := .agg #[.int .i64 0, .int .i64 0, .slice av R.length cv]) (by simp [results, Tryz.results8, go_sem, t0, t1, t2]) rfl (.inr ⟨e, HAT.out, .inr ⟨HK.out, q, rep, V, HDo.out, .inr ⟨HZ.out, by rw [← HRR.out]; exact ResM'.of (B := w2.heap.size) (by omega) (Nat.le_refl _) rfl G9.out B9.out⟩⟩⟩)
end Go.Proofs.YtolnlfnndnpiiaaGreat

namespace Go.Proofs.YtolnlfnndnpiiaaGreat
open Go.RowKit Go.Maps
set_option linter.unusedVariables false

theorem doing_zero {l : List Sn} (h : RightS l) {s : Sn} (hs : s ∈ l) {p : Bs} {zs : List Int} {k q rep : Int} {V : List En} (hk : k = 1 ∨ k = 2 ∨ k = 3) (hz : q + rep = 0) (hD : Doing (lwQ' l s) s.layer p zs k q rep V) : Right V := by
  have hb := doing_small h hs hk hD
  have hq : q = 0 := by omega
  have hl := layers_of_right h hs
  have hR := (layersP_zero.1 hl).2
  have ha : askL (lwQ' l s ++ [s.layer]) p = faultP p := by unfold askL; rw [if_pos hl]
  rcases hk with rfl | rfl | rfl
  · have hF := hD.1 rfl
    by_cases h0 : wovM (lwQ' l s ++ [s.layer]) p zs = 0
    · obtain ⟨h1, h2⟩ := hF.good h0
      unfold wovM at h0
      rw [ha] at h0
      by_cases hp : faultP p = 0
      · rw [if_pos hp] at h0
        exact wr_right hR hp (by split at h0 <;> omega) h2
      · rw [if_neg hp] at h0; exact absurd h0 hp
    · exact absurd ((hF.bad h0).1.symm.trans hq) h0
  · have hF := hD.2.1 rfl
    rw [ha] at hF
    by_cases h0 : faultP p = 0
    · exact mk_right hR h0 (hF.good h0).2
    · exact absurd ((hF.bad h0).1.symm.trans hq) h0
  · have hF := hD.2.2 rfl
    rw [ha] at hF
    by_cases h0 : faultP p = 0
    · exact rm_right hR h0 (hF.good h0).2
    · exact absurd ((hF.bad h0).1.symm.trans hq) h0
theorem doing_right {l : List Sn} (h : RightS l) {t : Sn} {nm : Bs} (ht : atS l nm = some t) {p : Bs} {zs : List Int} {k q rep : Int} {V : List En} (hk : k = 1 ∨ k = 2 ∨ k = 3) (hz : q + rep = 0) (hD : Doing (lwQ' l t) t.layer p zs k q rep V) : RightS (putN l ⟨t.name, t.parent, t.kind, t.lease, V⟩) := by
  obtain ⟨h1, h2⟩ := atS_some ht
  have ho := h.own t h1
  have hV := doing_zero h h1 hk hz hD
  exact right_turn h (s := ⟨t.name, t.parent, t.kind, t.lease, V⟩) (t := t) ⟨ho.1, ho.2.1, right_P.2 hV⟩ (by show atS l t.name = some t; rw [h2]; exact ht) rfl (fun hk => hk)
end Go.Proofs.YtolnlfnndnpiiaaGreat

namespace Go.Proofs.YtolnlfnndnpiiaaGreat
set_option linter.unusedVariables false

theorem mal_bare {ls : List (List En)} (h : layersP (ls ++ [[]]) = 0) (h0 : layersP ls = 0) : malL (ls ++ [[]]) = malL ls := by
  have hal : ∀ j, j ≤ ls.length → (ls ++ [[]]).take j = ls.take j := fun j hj => by rw [List.take_append_of_le_length hj]
  by_cases h40 : ∀ j, j ≤ ls.length → (allE (ls.take j)).length ≤ 40
  · have a := mal_ok h0 h40
    have b := mal_ok h (fun j hj => by
      by_cases hj2 : j ≤ ls.length
      · rw [hal j hj2]; exact h40 j hj2
      · have hj3 : j = (ls ++ [[]]).length := by rw [List.length_append] at hj ⊢; simp at hj ⊢; omega
        rw [hj3, List.take_length, all_bare]
        have := h40 ls.length (Nat.le_refl _)
        rwa [List.take_length] at this)
    rw [a.2, b.2, all_bare]
  · obtain ⟨j, hj⟩ := Classical.not_forall.1 h40
    obtain ⟨hj1, hj2⟩ := Classical.not_imp.1 hj
    rw [(mal_many h0 hj1 (by omega)).2, (mal_many h (k := j) (by rw [List.length_append]; omega) (by rw [hal j hj1]; omega)).2]
theorem lineS_alike {l : List Sn} {s s' : Sn} (hp : s.parent = s'.parent) : (lineS l 5 (some s)).length = (lineS l 5 (some s')).length := by
  have e : ∀ x : Sn, lineS l 5 (some x) = x :: lineS l 4 (atS l x.parent) := fun _ => rfl
  rw [e, e, hp]; rfl
theorem growR_alike {l : List Sn} {s s' : Sn} (hn : s.name = s'.name) (hp : s.parent = s'.parent) : growR l s = growR l s' := by
  unfold growR standS
  rw [hn, hp, lineS_alike hp]
structure Grows (l : List Sn) (s : Sn) : Prop where
  right : RightS (putN l s)
  at_ : atS (putN l s) s.name = some s
  none : s.parent = [] → chainS (putN l s) s = [s.layer]
  on : s.parent ≠ [] → ∃ p, atS l s.parent = some p ∧ atS (putN l s) s.parent = some p ∧ chainS (putN l s) s = chainS l p ++ [s.layer] ∧ remR (putN l s) p = 7
  leased : ∀ s', s'.lease = true → ∀ l', remR l' s' = 7
  off : s.lease = false → remR (putN l s) s = 0 ∧ (offN (putN l s) s.name).length = l.length
theorem grows_of {l : List Sn} (hr : RightS l) {s : Sn} (h : growR l s = 0) (hk : s.kind = 1 ∨ s.kind = 2) (hl : layFaultP s.layer = 0) : Grows l s := by
  obtain ⟨h1, h2, h3, h4⟩ := growR_zero.1 h
  have hself := grow_self h
  refine ⟨grow_right hr h hk hl, grow_at hr s, fun hp => grow_chain_none hr h hp, fun hp => ?_, fun s' hs l' => ?_, fun hle => ?_⟩
  · rcases h3 with h9 | ⟨p, hat, -, -⟩
    · exact absurd h9 hp
    · refine ⟨p, hat, ?_, grow_chain_on hr h hat, ?_⟩
      · rw [atS_put hr.rise, if_neg hself]; exact hat
      · unfold remR
        have : ((putN l s).any fun x => x.parent == p.name) = true := List.any_eq_true.2 ⟨s, mem_putN.2 (.inl rfl), by rw [(atS_some hat).2]; simp⟩
        rw [this, Bool.or_true]; rfl
  · unfold remR; rw [hs]; rfl
  · refine ⟨?_, grow_off hr h⟩
    unfold remR
    have : ((putN l s).any fun x => x.parent == s.name) = false := List.any_eq_false.2 fun x hx => by simpa using grow_bare hr h x hx
    rw [this, hle]; rfl
theorem lease_right {l : List Sn} (h : RightS l) {t : Sn} {nm : Bs} (ht : atS l nm = some t) (b : Bool) : RightS (putN l (leaS t b)) ∧ atS (putN l (leaS t b)) nm = some (leaS t b) := by
  obtain ⟨h1, h2⟩ := atS_some ht
  have ho := h.own t h1
  refine ⟨right_turn h (s := leaS t b) (t := t) ⟨ho.1, ho.2.1, ho.2.2⟩ (by show atS l t.name = some t; rw [h2]; exact ht) rfl (fun hk => hk), ?_⟩
  rw [atS_put h.rise, if_pos (by show nm = t.name; exact h2.symm)]
end Go.Proofs.YtolnlfnndnpiiaaGreat

namespace Go.Proofs.YtolnlfnndnpiiaaGreat
open Go.RowKit Go.Maps
set_option linter.unusedVariables false
attribute [local go_sem ↓] Go.wp_at_zero Go.wp_at_succ

theorem RightS.tiny {l : List Sn} (h : RightS l) : SmallS l := h.small (fun s hs => by
  rcases h.stand s hs with h1 | ⟨p, h1, -, -⟩
  · rw [h1]; simp
  · obtain ⟨a1, a2⟩ := atS_some h1
    have := (h.own p a1).1
    simp only [nmOk, Bool.and_eq_true, decide_eq_true_eq] at this
    rw [← a2]; omega) (fun s hs => right_small (right_P.1 (h.own s hs).2.2))
theorem rightS_nil : RightS [] := snF_zero.1 (by decide)
def StepS (w : World) (r : Ending) (w' : World) : Prop := ∃ rep l, ResM' 0 rep l w r w' ∧ RightS l
theorem prepS (a : Option Addr) (c n : Nat) (l : List Sn) (nm pa : Bs) (w : World) (h : RdS w a l) (hP : Plc a c l) (hn : n = l.length) (hR : RightS l) (hn1 : nm.length ≤ 1048576) (hn2 : pa.length ≤ 1048576) :
    Calls Tryz.prog 16 #[.slice a n c, .string (str nm), .string (str pa)] w (StepS w) := by
  refine (specPrepareSnap_ok a c n l nm pa w h hP hn hR hR.tiny hn1 hn2).mono ?_
  rintro r w' (⟨-, h1⟩ | ⟨h0, h1⟩)
  · exact ⟨_, l, h1, hR⟩
  · exact ⟨0, _, h1, grow_right hR (by rw [← grow_same hR]; exact h0) (.inl rfl) (right_P.2 right_nil)⟩
theorem addS (a : Option Addr) (c n : Nat) (l : List Sn) (nm pa : Bs) (xa : Option Addr) (xc m : Nat) (es : List En) (hm : m = es.length) (w : World) (h : RdS w a l) (hP : Plc a c l) (hn : n = l.length) (hR : RightS l) (hn1 : nm.length ≤ 1048576) (hn2 : pa.length ≤ 1048576) (hx : RdE w xa es) (hz : Right es) :
    Calls Tryz.prog 138 #[.slice a n c, .string (str nm), .string (str pa), .slice xa m xc] w (StepS w) := by
  refine (specAddSnap_ok a c n l nm pa xa xc m es hm w h hP hn hR hR.tiny hn1 hn2 hx (by have := hz.len; omega) (right_small hz) (right_E.2 hz)).mono ?_
  rintro r w' (⟨-, h1⟩ | ⟨h0, h1⟩)
  · exact ⟨_, l, h1, hR⟩
  · exact ⟨0, _, h1, grow_right hR (by rw [← grow_same hR]; exact h0) (.inr rfl) (right_P.2 hz)⟩
theorem comS' (a : Option Addr) (c n : Nat) (l : List Sn) (nm : Bs) (w : World) (h : RdS w a l) (hn : n = l.length) (hR : RightS l) :
    Calls Tryz.prog 140 #[.slice a n c, .string (str nm)] w (StepS w) := by
  refine (specCommitSnap_ok a c n l nm w h hn hR hR.tiny).mono ?_
  rintro r w' (⟨-, h1⟩ | ⟨t, ht, ⟨-, h1⟩ | ⟨-, h1⟩⟩)
  · exact ⟨_, l, h1, hR⟩
  · exact ⟨_, l, h1, hR⟩
  · obtain ⟨e1, e2⟩ := atS_some ht
    have ho := hR.own t e1
    exact ⟨0, _, h1, right_turn hR (s := ⟨t.name, t.parent, 2, t.lease, t.layer⟩) (t := t) ⟨ho.1, .inr rfl, ho.2.2⟩ (by show atS l t.name = some t; rw [e2]; exact ht) rfl (fun _ => by show (2 : Int) ≠ 1; decide)⟩
theorem leaS' (a : Option Addr) (c n : Nat) (l : List Sn) (nm : Bs) (b : Bool) (w : World) (h : RdS w a l) (hn : n = l.length) (hR : RightS l) :
    Calls Tryz.prog 141 #[.slice a n c, .string (str nm), .bool b] w (StepS w) := by
  refine (specLeaseSnap_ok a c n l nm b w h hn hR hR.tiny).mono ?_
  rintro r w' (⟨-, h1⟩ | ⟨t, ht, h1⟩)
  · exact ⟨_, l, h1, hR⟩
  · exact ⟨0, _, h1, (lease_right hR ht b).1⟩
theorem remS' (a : Option Addr) (c n : Nat) (l : List Sn) (nm : Bs) (w : World) (h : RdS w a l) (hP : Plc a c l) (hn : n = l.length) (hR : RightS l) :
    Calls Tryz.prog 142 #[.slice a n c, .string (str nm)] w (StepS w) := by
  refine (specRemoveSnap_ok a c n l nm w h hP hn hR hR.tiny).mono ?_
  rintro r w' (⟨-, h1⟩ | ⟨t, ht, ⟨-, h1⟩ | ⟨h0, h1⟩⟩)
  · exact ⟨_, l, h1, hR⟩
  · exact ⟨_, l, h1, hR⟩
  · refine ⟨0, _, h1, right_off hR (fun x hx e => ?_)⟩
    have : (l.any fun s => s.parent == t.name) = true := List.any_eq_true.2 ⟨x, hx, by rw [e, (atS_some ht).2]; simp⟩
    unfold remR at h0
    rw [this, Bool.or_true] at h0
    exact absurd h0 (by decide)
theorem wriS' (a : Option Addr) (c n : Nat) (l : List Sn) (nm p : Bs) (zs : List Int) (d : Option Addr) (dn dc : Nat) (k : Int) (w : World) (h : RdS w a l) (hn : n = l.length) (hR : RightS l) (hk3 : k = 1 ∨ k = 2 ∨ k = 3) (hpl : p.length ≤ 1048576) (hd : Reads .u8 w d zs) (hdn : dn = zs.length) (hu8 : U8 zs) (hdc : zs.length ≤ dc) (hdl : zs.length ≤ 1048576) :
    Calls Tryz.prog 8 #[.slice a n c, .string (str nm), .string (str p), .slice d dn dc, .int .i64 k] w (StepS w) := by
  refine (specWriteSnap_ok a c n l nm p zs d dn dc k w h hn hR hR.tiny hk3 hpl hd hdn hu8 hdc hdl).mono ?_
  rintro r w' (⟨-, h1⟩ | ⟨t, ht, ⟨-, h1⟩ | ⟨-, q, rep, V, hD, ⟨-, h1⟩ | ⟨hz, h1⟩⟩⟩)
  · exact ⟨_, l, h1, hR⟩
  · exact ⟨_, l, h1, hR⟩
  · exact ⟨_, l, h1, hR⟩
  · exact ⟨0, _, h1, doing_right hR ht hk3 hz hD⟩
set_option maxRecDepth 100000 in
set_option maxHeartbeats 800000 in
theorem nameS_e (p : Nat) (zs : List Int) (T : Int) (w : World) (h : SrcX w p zs T) (hu : U8 zs) (hT : T ≤ 1000000) (hl : zs.length ≤ 2097152) :
    Calls Tryz.prog 61 #[.pointer (some ⟨p, 0, none⟩)] w fun e w' => ∃ x : Bs, e = .returned (.string (str x)) ∧ x.length ≤ 2 ∧ SrcX w' p zs (T + 1) ∧ Kept (fun b => b = p) w w' := by
  have hp := h.lt
  have T0 := hide (TextsQ.new (Q := fun x => x.length ≤ 2) (w := w) (t := 9) (vs := [[97], [98], [99], [100], [97, 97]]) (by decide))
  have HS := hide (h.below (below_alloc w (.cells ([[97], [98], [99], [100], [97, 97]].map vS).toArray 9)))
  have HU := hide hu
  clear h hu
  go_enter Tryz.func61, Tryz.ntmps61
  go_wp2_with fail
  refine (next_e p zs T 5 _ HS.out HU.out hT (by decide) (by decide) hl).mono ?_
  rintro e w1 ⟨i, rfl, r1, s1, k1⟩
  have T1 := hide (T0.out.kept k1 (by omega))
  have S1 := hide s1
  have K1 := hide (((Kept.refl (fun b => b = p) w).alloc (.cells ([[97], [98], [99], [100], [97, 97]].map vS).toArray 9)).trans k1)
  clear s1 k1 T0 HS
  obtain ⟨x, hx, hxl⟩ := T1.out.2 i (by simp; omega)
  have hb := T1.out.1
  have HX := hide hxl
  clear hxl
  go_wp2_with fail
  go_ret
  exact ⟨x, rfl, HX.out, S1.out, K1.out⟩
end Go.Proofs.YtolnlfnndnpiiaaGreat

