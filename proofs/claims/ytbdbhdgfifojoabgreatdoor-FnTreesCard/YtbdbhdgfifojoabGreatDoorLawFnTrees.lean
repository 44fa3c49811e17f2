/-
  At every byte slice the law FnTrees returns true, and the card that ties the listed variables to the program's text: what is made in a tree is there, what is removed is not, and all else stays. No condition but what the row lists.
-/
import Derived.Test.YtbdbhdgfifojoabGreatDoorTreK
import Derived.Test.YtbdbhdgfifojoabGreatDoorIteH
import Derived.Test.YtbdbhdgfifojoabGreatDoorCards
import Derived.Test.YtbdbhdgfifojoabGreatDoorTie
import Derived.LaidMore
import Derived.Lay
import Derived.SevenTiedAt
import Derived.Stop.Joined
import Derived.ProofKit
import Derived.OpenShut
import Derived.ShutString
import Derived.ChangeOld
import Derived.Deep.DrawnRows
import Derived.Deep.RegionHeld3
namespace Go.Proofs.YtbdbhdgfifojoabGreatDoor.fnTrees
open Go.ChangeShapes Go.WideShapes Go.ChangeAt Go.RowKit Go.Maps
set_option linter.unusedVariables false
attribute [local go_sem ↓] Go.wp_at_zero Go.wp_at_succ

theorem own : ownKnob Tryz.prog.godebug = none := by kernel_rfl
theorem laidOut : laidOutB Tryz.prog = true := by kernel_rfl

theorem bytes_of_trod {H : Type} {enc : TypeId × Value → H} {W : World} {a : Option Addr} {n c fuel : Nat} {x : DataW H × List MemPlace}
    (h : DataW.trod enc Tryz.prog W 0 (fun _ => true) true fuel 22 [.slice a n c] = some x) : ∃ zs : List Int, zs.length = n ∧ Reads .u8 W a zs ∧ U8 zs ∧ zs.length ≤ maxLen := by
  rcases open_ints Tryz.underlying22 Tryz.underlying5 (by kernel_rfl) h with ⟨hcs, _⟩ | ⟨x, l, c, zs, hcs, _, hl, hm, hz, _, hcell, hwz⟩
  · simp at hcs
    obtain ⟨rfl, rfl, rfl⟩ := hcs
    exact ⟨[], rfl, fun h => absurd rfl h, fun z hz => by simp at hz, Nat.zero_le _⟩
  · simp at hcs
    obtain ⟨rfl, rfl, rfl⟩ := hcs
    exact reads_of_row (by simpa using hz) hl hm hcell hwz

theorem lwBig_no (a : Option Addr) (cap : Nat) (n : Nat) (w : World) (h : n ≤ 1048576) :
    Calls Tryz.prog 5 #[.slice a n cap] w fun e w' => e = .returned (.bool false) ∧ w' = w := by
  have hb : ¬ (1048576 : Int) < (n : Int) := by omega
  go_enter Tryz.func5, Tryz.ntmps5
  go_wp2
  go_ret
  exact ⟨ret_bool (by simp <;> omega), rfl⟩
theorem lwBig_yes (a : Option Addr) (cap : Nat) (n : Nat) (w : World) (h : 1048576 < n) (h2 : n ≤ maxLen) :
    Calls Tryz.prog 5 #[.slice a n cap] w fun e w' => e = .returned (.bool true) ∧ w' = w := by
  have hb : (1048576 : Int) < (n : Int) := by omega
  unfold maxLen at h2
  go_enter Tryz.func5, Tryz.ntmps5
  go_wp2
  go_ret
  exact ⟨ret_bool (by simp <;> omega), rfl⟩

theorem wide {L : List En} (h : RightT L) : L.length ≤ 1048576 := by have := h.len; omega
theorem stat_yes (a : Option Addr) (c : Nat) (L : List En) (p : Bs) (y : En) (w : World) (h : RdE w a L) (hR : RightT L) (hp : p.length ≤ 1048576) (h0 : statC L p = 0 ∧ statL L p = [y]) :
    Calls Tryz.prog 19 #[.slice a L.length c, .string (str p)] w fun r w' => ∃ xa xc, r = .returned (.agg #[.int .i64 0, .slice xa 1 xc]) ∧ RdE w' xa [y] ∧ Below w.heap.size w w' := by
  have h1 := implStatTree_any a c L.length L p w h rfl (wide hR) hR.small hp
  rw [h0.1, h0.2] at h1
  exact h1.mono (fun r w' ⟨xa, xc, e, g, b⟩ => ⟨xa, xc, e, g.rd, b⟩)
theorem stat_no (a : Option Addr) (c : Nat) (L : List En) (p : Bs) (w : World) (h : RdE w a L) (hR : RightT L) (hp : p.length ≤ 1048576) (h0 : statC L p = 4) :
    Calls Tryz.prog 19 #[.slice a L.length c, .string (str p)] w fun r w' => ∃ xa n xc, r = .returned (.agg #[.int .i64 4, .slice xa n xc]) ∧ Below w.heap.size w w' := by
  have h1 := implStatTree_any a c L.length L p w h rfl (wide hR) hR.small hp
  rw [h0] at h1
  exact h1.mono (fun r w' ⟨xa, xc, e, g, b⟩ => ⟨xa, _, xc, e, b⟩)
theorem fault_ok (a : Option Addr) (c : Nat) (L : List En) (w : World) (h : RdE w a L) (hR : RightT L) :
    Calls Tryz.prog 21 #[.slice a L.length c] w fun r w' => r = .returned (.int .i64 0) ∧ Below w.heap.size w w' := by
  have h1 := implTreeFault_any a c L.length L w h rfl (wide hR) hR.small
  rw [rightT_P.2 hR] at h1
  exact h1
theorem rem_ok (a : Option Addr) (c : Nat) (L D : List En) (p : Bs) (w : World) (h : RdE w a L) (hR : RightT L) (hp : p.length ≤ 1048576) (h0 : askT L p = 0 ∧ remRep L p = 0 ∧ remList L p = D) :
    Calls Tryz.prog 20 #[.slice a L.length c, .string (str p)] w fun r w' => ∃ xa xc, r = .returned (.agg #[.int .i64 0, .int .i64 0, .slice xa D.length xc]) ∧ RdE w' xa D ∧ Below w.heap.size w w' := by
  have h1 := implRemoveTree_any a c L.length L p w h rfl (wide hR) hR.small hp
  rw [h0.1, h0.2.1, h0.2.2] at h1
  exact h1.mono (fun r w' ⟨xa, xc, e, g, b⟩ => ⟨xa, xc, e, g.rd, b⟩)
theorem make_ok (a : Option Addr) (c : Nat) (L D : List En) (p : Bs) (w : World) (h : RdE w a L) (hR : RightT L) (hp : p.length ≤ 1048576) (h0 : askT L p = 0 ∧ mkRep L p = 0 ∧ mkList L p = D) :
    Calls Tryz.prog 22 #[.slice a L.length c, .string (str p)] w fun r w' => ∃ xa xc, r = .returned (.agg #[.int .i64 0, .int .i64 0, .slice xa D.length xc]) ∧ RdE w' xa D ∧ Below w.heap.size w w' := by
  have h1 := implMakeDir_any a c L.length L p w h rfl (wide hR) hR.small hp
  rw [h0.1, h0.2.1, h0.2.2] at h1
  exact h1.mono (fun r w' ⟨xa, xc, e, g, b⟩ => ⟨xa, xc, e, g.rd, b⟩)
theorem make_taken (a : Option Addr) (c : Nat) (L : List En) (p : Bs) (w : World) (h : RdE w a L) (hR : RightT L) (hp : p.length ≤ 1048576) (h0 : mkRep L p = 7) :
    Calls Tryz.prog 22 #[.slice a L.length c, .string (str p)] w fun r w' => ∃ q xa n xc, r = .returned (.agg #[.int .i64 q, .int .i64 7, .slice xa n xc]) ∧ Below w.heap.size w w' := by
  have h1 := implMakeDir_any a c L.length L p w h rfl (wide hR) hR.small hp
  rw [h0] at h1
  exact h1.mono (fun r w' ⟨xa, xc, e, g, b⟩ => ⟨_, xa, _, xc, e, b⟩)
theorem text_ok (a : Option Addr) (c : Nat) (L : List En) (w : World) (h : RdE w a L) (hR : RightT L) (h0 : 5 < (treeT L).length) :
    Calls Tryz.prog 23 #[.slice a L.length c] w fun r w' => ∃ S : ByteArray, r = .returned (.agg #[.int .i64 0, .string S]) ∧ (5 : Int) < (S.size : Int) ∧ Below w.heap.size w w' := by
  have h1 := implTreeText_any a c L.length L w h rfl (wide hR) hR.small
  rw [rightT_P.2 hR] at h1
  exact h1.mono (fun r w' ⟨e, b⟩ => ⟨_, e, by rw [str_size]; omega, b⟩)
theorem one_size {w : World} {a : Option Addr} {e : En} (h : RdE w a [e]) : ∃ b off, a = some ⟨b, off, none⟩ ∧ b < w.heap.size ∧ w.cell? ⟨b, off + 0 * 4 + 2, none⟩ = some (.int .i64 e.size) := by
  obtain ⟨b, off, e', x, cc, rfl, hb, he, c0, c1, c2, c3, hr⟩ := h.at (k := 0) (by simp)
  simp at he
  subst he
  exact ⟨b, off, rfl, hb, c2⟩

set_option maxRecDepth 100000 in
set_option maxHeartbeats 16000000 in
theorem walk (w : World) (a0 : Option Addr) (cap0 : Nat) (zs : List Int) (h : Reads .u8 w a0 zs) (hu : U8 zs) (hmax : zs.length ≤ maxLen) :
    Calls Tryz.prog 4 #[.slice a0 zs.length cap0] w fun e w' => e = .returned (.bool true) ∧ Below w.heap.size w w' := by
  have HR := hide h
  have HU := hide hu
  clear h hu
  by_cases hbig : 1048576 < zs.length
  · go_enter Tryz.func4, Tryz.ntmps4
    go_wp2_with fail
    refine (lwBig_yes _ _ _ _ hbig hmax).mono ?_
    rintro e w ⟨rfl, rfl⟩
    go_wp2_with fail
    go_ret
    exact ⟨rfl, Below.refl _ _⟩
  · go_enter Tryz.func4, Tryz.ntmps4
    go_wp2_with fail
    refine (lwBig_no _ _ _ _ (by omega)).mono ?_
    rintro e w ⟨rfl, rfl⟩
    go_wp2_with fail
    refine (drawWriteTree_any a0 cap0 zs _ HR.out HU.out (by omega)).mono ?_
    rintro e w1 ⟨es, av, cv, p, da, dc, ds, rfl, hcv, hgd, hel, hsm, hrd, hpl, hdl, hdu, hdr, hdc, hb1⟩
    have HGd := hide hgd
    have HSm := hide hsm
    have RD1 := hide hrd
    have HDU := hide hdu
    have HDR := hide hdr
    have B1 := hide hb1
    clear hgd hsm hrd hb1 hdu hdr HR HU hbig hmax
    have hle : es.length ≤ 1048576 := by omega
    have hdle : ds.length ≤ 1048576 := by omega
    go_wp2_with fail
    refine (implWriteTree_any av cv es.length es p da dc ds w1 RD1.out rfl hle HSm.out hpl HDR.out HDU.out hdc hdle).mono ?_
    rintro r w2 ⟨tv, tc, rfl, hG2, hb2⟩
    have HSP : Hid (∀ u : World, Below w1.heap.size w1 u → Calls Tryz.prog 18 #[.slice av es.length cv, .string (str p), .slice da ds.length dc] u (ResT (wrCode es p ds) (wrRep es p ds) (wrList es p ds) u)) := hide (fun u hb' => specWriteTree_any av cv es.length es p da dc ds u (RD1.out.below hb') rfl hle HSm.out hpl HGd.out (HDR.out.below hb') HDU.out hdc hdle)
    have HTR : Hid (wrCode es p ds = 0 → wrRep es p ds = 0 → ∃ T1 D M, Trees es p ds T1 D M) := hide (fun h1 h2 => trees_of h1 h2)
    have G2 := hide hG2.rd
    by_cases hz : wrCode es p ds = 0 ∧ wrRep es p ds = 0
    · obtain ⟨T1, D, M, hT⟩ := HTR.out hz.1 hz.2
      rw [hz.1, hz.2, hT.w0.2.2]
      rw [hT.w0.2.2] at G2
      have HT := hide hT
      clear hT hz HTR HSP hG2 HGd HDU HDR
      have AW := hide (below_alloc w2 (.cells #[.int .i64 0, .int .i64 0, .slice tv T1.length tc] 45))
      have X2 := hide (Box3.new w2 (.int .i64 0) (.int .i64 0) (.slice tv T1.length tc) 45)
      have RT2 := hide (G2.out.below AW.out)
      have BW2 := hide (below_next hb2 AW.out)
      have B2 := hide (below_next B1.out BW2.out)
      have RD2 := hide (RD1.out.below BW2.out)
      clear hb2 AW G2 RD1 B1 BW2
      go_wp2_with fail
      generalize w2.alloc (.cells #[.int .i64 0, .int .i64 0, .slice tv T1.length tc] 45) = W2 at *
      generalize w2.heap.size = b2 at *
      obtain ⟨⟨t0, t1, t2⟩, t3, t4, t5⟩ := X2.out
      go_wp2_with fail
      refine (stat_yes tv tc T1 p (fileE p ds) _ RT2.out HT.out.r1 hpl HT.out.s1).mono ?_
      rintro r w3 ⟨sv, sc, rfl, hr3, hb3⟩
      have AW3 := hide (below_next hb3 (below_alloc w3 (.cells #[.int .i64 0, .slice sv 1 sc] 27)))
      have Y3 := hide (Box.new w3 (.int .i64 0) (.slice sv 1 sc) 27)
      have RS3 := hide (hr3.below (below_alloc w3 (.cells #[.int .i64 0, .slice sv 1 sc] 27)))
      have X3 := hide (X2.out.below AW3.out)
      have RT3 := hide (RT2.out.below AW3.out)
      have RD3 := hide (RD2.out.below AW3.out)
      have B3 := hide (below_next B2.out AW3.out)
      clear hr3 hb3 AW3 X2 RT2 RD2 B2 t0 t1 t2 t3 t4 t5
      obtain ⟨⟨t0, t1, t2⟩, t3, t4, t5⟩ := X3.out
      go_wp2_with fail
      generalize w3.alloc (.cells #[.int .i64 0, .slice sv 1 sc] 27) = W3 at *
      generalize w3.heap.size = b3 at *
      refine (rem_ok tv tc T1 D p _ RT3.out HT.out.r1 hpl HT.out.d1).mono ?_
      rintro r w4 ⟨dv, dd, rfl, hr4, hb4⟩
      have AW4 := hide (below_next hb4 (below_alloc w4 (.cells #[.int .i64 0, .int .i64 0, .slice dv D.length dd] 45)))
      have Z4 := hide (Box3.new w4 (.int .i64 0) (.int .i64 0) (.slice dv D.length dd) 45)
      have RX4 := hide (hr4.below (below_alloc w4 (.cells #[.int .i64 0, .int .i64 0, .slice dv D.length dd] 45)))
      have X4 := hide (X3.out.below AW4.out)
      have Y4 := hide (Y3.out.below AW4.out)
      have RT4 := hide (RT3.out.below AW4.out)
      have RS4 := hide (RS3.out.below AW4.out)
      have RD4 := hide (RD3.out.below AW4.out)
      have B4 := hide (below_next B3.out AW4.out)
      clear hr4 hb4 AW4 X3 Y3 RT3 RS3 RD3 B3 t0 t1 t2 t3 t4 t5
      obtain ⟨⟨t0, t1, t2⟩, t3, t4, t5⟩ := X4.out
      go_wp2_with fail
      generalize w4.alloc (.cells #[.int .i64 0, .int .i64 0, .slice dv D.length dd] 45) = W4 at *
      generalize w4.heap.size = b4 at *
      refine (fault_ok tv tc T1 _ RT4.out HT.out.r1).mono ?_
      rintro r w5 ⟨rfl, hb5⟩
      have X5 := hide (X4.out.below hb5)
      have Y5 := hide (Y4.out.below hb5)
      have Z5 := hide (Z4.out.below hb5)
      have RT5 := hide (RT4.out.below hb5)
      have RX5 := hide (RX4.out.below hb5)
      have RD5 := hide (RD4.out.below hb5)
      have B5 := hide (below_next B4.out hb5)
      obtain ⟨sb, so, rfl, -, hsz⟩ := one_size (RS4.out.below hb5)
      have hfs : (fileE p ds).size = (ds.length : Int) := rfl
      rw [hfs] at hsz
      clear hb5 X4 Y4 Z4 RT4 RX4 RS4 RD4 B4 t0 t1 t2 t3 t4 t5 hfs
      obtain ⟨⟨t0, t1, t2⟩, t3, t4, t5⟩ := X5.out
      obtain ⟨⟨u0, u1⟩, u2, u3⟩ := Y5.out
      obtain ⟨⟨v0, v1, v2⟩, v3, v4, v5⟩ := Z5.out
      go_wp2_with fail
      refine (stat_no dv dd D p _ RX5.out HT.out.r2 hpl HT.out.s2).mono ?_
      rintro r w6 ⟨xa, xn, xc, rfl, hb6⟩
      have X6 := hide (X5.out.below hb6)
      have Z6 := hide (Z5.out.below hb6)
      have RT6 := hide (RT5.out.below hb6)
      have RX6 := hide (RX5.out.below hb6)
      have RD6 := hide (RD5.out.below hb6)
      have B6 := hide (below_next B5.out hb6)
      clear hb6 X5 Y5 Z5 RT5 RX5 RD5 B5 t0 t1 t2 t3 t4 t5 u0 u1 u2 u3 v0 v1 v2 v3 v4 v5 hsz
      have hfd : ∀ (w : World), (Instr.field 27 (.agg #[.int .i64 4, .slice xa xn xc]) 0).run Tryz.prog w = .ok (.int .i64 4) w := fun _ => by kernel_rfl
      go_wp2_with fail
      clear hfd
      have HALL : Hid (∀ y ∈ es, y.path ≠ p → ∀ u : World, Below w6.heap.size w6 u → Calls Tryz.prog 19 #[.slice dv D.length dd, .string (str y.path)] u fun r w' => ∃ xa xc, r = .returned (.agg #[.int .i64 0, .slice xa 1 xc]) ∧ RdE w' xa [y] ∧ Below u.heap.size u w') := hide (fun y hy hn u hb => stat_yes dv dd D y.path y u (RX6.out.below hb) HT.out.r2 (by have := (HSm.out y hy).1; omega) (HT.out.all y hy hn))
      go_loopw [10] (fun i wr => ∃ k : Nat, k ≤ es.length ∧ i = .int .i64 k ∧ Hid (Below w6.heap.size w6 wr)) (fun i _ => es.length - (intOf i).toNat)
      case atStart => exact ⟨0, Nat.zero_le _, rfl, hide (Below.refl _ _)⟩
      case round =>
        obtain ⟨k, hk, rfl, HW⟩ := hrel
        have hsz := HW.out.size
        by_cases hlt : k < es.length
        · obtain ⟨b, off, e, x, cc, rfl, hb, he, c0, c1, c2, c3, hr⟩ := (RD6.out.below HW.out).at hlt
          have HX := hide he
          have hk0 : (0 : Int) ≤ (k : Int) := by omega
          have hk1 : (k : Int) < (es.length : Int) := by omega
          have hk2 : (k : Int) ≤ (k : Int) + 1 := by omega
          have hk3 : (k : Int) + 1 ≤ (cv : Int) := by omega
          have hk4 : (0 : Int) ≤ (k : Int) + 1 := by omega
          have hwr : IntKind.i64.wrap ((k : Int) + 1) = (k : Int) + 1 := by simp [IntKind.wrap, IntKind.signed, IntKind.bits]; omega
          have htn : ((k : Int) + 1).toNat = k + 1 := by omega
          have hon : k + 1 - k = 1 := by omega
          have hsme := HSm.out e (List.mem_of_getElem? he)
          have HC0 : Hid (∀ u : World, Below wr.heap.size wr u → u.cell? ⟨b, off + k * 4, none⟩ = some (.string (str e.path))) := hide (fun u hu => (hu.cell (p := ⟨b, off + k * 4, none⟩) hb).trans c0)
          have HZ2 : Hid (∀ u : World, Below wr.heap.size wr u → u.cell? ⟨b4, 2, none⟩ = some (.slice dv D.length dd)) := hide (fun u hu => (Z6.out.below (below_next HW.out hu)).1.2.2)
          have RS := hide ((RD6.out.below HW.out).one he)
          clear he hr c0 c1 c2 c3
          by_cases hpe : e.path = p
          · rw [hpe] at HC0
            have m1 : ∀ u : InW (fun x => Below wr.heap.size wr x), u.val.cell? ⟨b, off + k * 4, none⟩ = some (.string (str p)) := fun u => HC0.out _ u.ok
            haveI : Nonempty (InW (fun x => Below wr.heap.size wr x)) := ⟨⟨wr, Below.refl _ _⟩⟩
            go_wp2_with fail
            refine wp_region_inv (Inv := (fun x => Below wr.heap.size wr x)) (by kernel_rfl) (by kernel_rfl) (Below.refl _ _).drew ?_
            repeat (first | go_big_quiet_step (fail) | quiet_step (fail))
            refine wpQuiet_nil ?_
            intro _ hw'
            obtain ⟨u, hw''⟩ := hw'
            subst hw''
            have B12 := hide (below_next HW.out u.ok)
            go_wp2_with fail
            go_roundw
            case rel => exact ⟨k + 1, by omega, by go_num, B12⟩
            case measure => simp [intOf]; omega
          · have hs2 := str_no hpe
            have HA := hide (HALL.out e (List.mem_of_getElem? HX.out) hpe)
            have HSL : Hid (∀ (u : World) (ya : Option Addr) (yc cc : Nat), Below wr.heap.size wr u → RdE u ya [e] → Calls Tryz.prog 14 #[.slice ya 1 yc, .slice (some ⟨b, off + k * 4, none⟩) 1 cc] u fun r w' => r = .returned (.bool true) ∧ Below u.heap.size u w') := hide (fun u ya yc cc hu hy => (implSameLayers_any ya _ yc cc 1 1 [e] [e] u hy (RS.out.below hu) rfl rfl (by simp) (by simp) (fun z hz => by simp at hz; subst hz; exact hsme) (fun z hz => by simp at hz; subst hz; exact hsme)).mono (fun r w' ⟨he, hb⟩ => ⟨by rw [he]; simp, hb⟩))
            have hfd : ∀ (a : Option Addr) (c : Nat) (w : World), (Instr.field 27 (.agg #[.int .i64 0, .slice a 1 c]) 1).run Tryz.prog w = .ok (.slice a 1 c) w := fun _ _ _ => by kernel_rfl
            have KC : Hid (∀ u : World, Below wr.heap.size wr u → u.cell? ⟨b, off + k * 4, none⟩ = some (.string (str e.path)) ∧ u.cell? ⟨b4, 2, none⟩ = some (.slice dv D.length dd)) := hide (fun u hu => ⟨HC0.out _ hu, HZ2.out _ hu⟩)
            obtain ⟨s1, s2⟩ := KC.out _ (Below.refl _ _)
            clear HC0 HZ2 hpe
            go_wp2_with fail
            go_region_held3 (fun w' => w'.cell? ⟨b, off + k * 4, none⟩ = some (.string (str e.path)) ∧ w'.cell? ⟨b4, 2, none⟩ = some (.slice dv D.length dd)) (first | exact KC.out _ BB8.out | exact KC.out _ BB9.out | go_keep)
              ((first
                | (go_at_call 19; refine (HA.out _ HW.out.drew).mono ?_; rintro r w8 ⟨ya, yc, rfl, hr8, hb8⟩; have R8 := hide hr8; have BB8 := hide ((Below.refl wr.heap.size wr).drew.trans hb8); clear hr8 hb8)
                | (go_at_call 14; refine (HSL.out _ _ _ _ BB8.out R8.out).mono ?_; rintro r w9 ⟨rfl, hb9⟩; have BB9 := hide (below_next BB8.out hb9); clear hb9)))
            have B12 := hide (below_next HW.out BB9.out)
            go_wp2_with fail
            go_roundw
            case rel => exact ⟨k + 1, by omega, by go_num, B12⟩
            case measure => simp [intOf]; omega
        · have X7 := hide (X6.out.below HW.out)
          have Z7 := hide (Z6.out.below HW.out)
          have RT7 := hide (RT6.out.below HW.out)
          have RX7 := hide (RX6.out.below HW.out)
          have B7 := hide (below_next B6.out HW.out)
          clear X6 Z6 RT6 RX6 RD6 B6 HALL HW hsz
          obtain ⟨⟨v0, v1, v2⟩, v3, v4, v5⟩ := Z7.out
          go_wp2_with fail
          refine (make_ok dv dd D M p _ RX7.out HT.out.r2 hpl HT.out.m1).mono ?_
          rintro r w8 ⟨mv, mc, rfl, hr8, hb8⟩
          have AW8 := hide (below_next hb8 (below_alloc w8 (.cells #[.int .i64 0, .int .i64 0, .slice mv M.length mc] 45)))
          have N8 := hide (Box3.new w8 (.int .i64 0) (.int .i64 0) (.slice mv M.length mc) 45)
          have RM8 := hide (hr8.below (below_alloc w8 (.cells #[.int .i64 0, .int .i64 0, .slice mv M.length mc] 45)))
          have X8 := hide (X7.out.below AW8.out)
          have RT8 := hide (RT7.out.below AW8.out)
          have B8 := hide (below_next B7.out AW8.out)
          clear hr8 hb8 AW8 X7 Z7 RT7 RX7 B7 v0 v1 v2 v3 v4 v5
          go_wp2_with fail
          generalize w8.alloc (.cells #[.int .i64 0, .int .i64 0, .slice mv M.length mc] 45) = W8 at *
          generalize w8.heap.size = b8 at *
          obtain ⟨⟨v0, v1, v2⟩, v3, v4, v5⟩ := N8.out
          go_wp2_with fail
          refine (fault_ok mv mc M _ RM8.out HT.out.r3).mono ?_
          rintro r w9 ⟨rfl, hb9⟩
          have N9 := hide (N8.out.below hb9)
          have RM9 := hide (RM8.out.below hb9)
          have X9 := hide (X8.out.below hb9)
          have RT9 := hide (RT8.out.below hb9)
          have B9 := hide (below_next B8.out hb9)
          clear hb9 N8 RM8 X8 RT8 B8 v0 v1 v2 v3 v4 v5
          obtain ⟨⟨v0, v1, v2⟩, v3, v4, v5⟩ := N9.out
          go_wp2_with fail
          refine (make_taken mv mc M p _ RM9.out HT.out.r3 hpl HT.out.m2).mono ?_
          rintro r w10 ⟨q, xa, xn, xc, rfl, hb10⟩
          have X10 := hide (X9.out.below hb10)
          have RT10 := hide (RT9.out.below hb10)
          have B10 := hide (below_next B9.out hb10)
          clear hb10 N9 RM9 X9 RT9 B9 v0 v1 v2 v3 v4 v5
          have hfd : ∀ (w : World), (Instr.field 45 (.agg #[.int .i64 q, .int .i64 7, .slice xa xn xc]) 1).run Tryz.prog w = .ok (.int .i64 7) w := fun _ => by kernel_rfl
          obtain ⟨⟨t0, t1, t2⟩, t3, t4, t5⟩ := X10.out
          go_wp2_with fail
          refine (text_ok tv tc T1 _ RT10.out HT.out.r1 HT.out.text).mono ?_
          rintro r w11 ⟨S, rfl, hS, hb11⟩
          have B11 := hide (below_next B10.out hb11)
          clear hb11 X10 RT10 B10 t0 t1 t2 t3 t4 t5 hfd
          have hfd : ∀ (w : World), (Instr.field 35 (.agg #[.int .i64 0, .string S]) 1).run Tryz.prog w = .ok (.string S) w := fun _ => by kernel_rfl
          go_wp2_with fail
          go_ret
          exact ⟨ret_bool (by simp <;> omega), B11.out⟩
    · have HZ := hide hz
      generalize wrCode es p ds = C at *
      generalize wrRep es p ds = R at *
      generalize wrList es p ds = L at *
      have AW := hide (below_alloc w2 (.cells #[.int .i64 C, .int .i64 R, .slice tv L.length tc] 45))
      have X2 := hide (Box3.new w2 (.int .i64 C) (.int .i64 R) (.slice tv L.length tc) 45)
      have BW2 := hide (below_next hb2 AW.out)
      have B2 := hide (below_next B1.out BW2.out)
      clear hb2 AW hG2 G2 HTR hz
      by_cases hc : C = 0
      · have hr : (R != 0) = true := by simp; exact fun e => HZ.out ⟨hc, e⟩
        subst hc
        clear HZ
        go_wp2_with fail
        generalize w2.alloc (.cells #[.int .i64 0, .int .i64 R, .slice tv L.length tc] 45) = W2 at *
        generalize w2.heap.size = b2 at *
        obtain ⟨⟨t0, t1, t2⟩, t3, t4, t5⟩ := X2.out
        go_wp2_with fail
        refine (HSP.out _ BW2.out).mono ?_
        rintro r w3 ⟨sv, sc, rfl, -, hb3⟩
        have AW3 := hide (below_next hb3 (below_alloc w3 (.cells #[.int .i64 0, .int .i64 R, .slice sv L.length sc] 45)))
        have Y3 := hide (Box3.new w3 (.int .i64 0) (.int .i64 R) (.slice sv L.length sc) 45)
        have X3 := hide (X2.out.below AW3.out)
        have B3 := hide (below_next B2.out AW3.out)
        clear hb3 AW3 X2 B2 t0 t1 t2 t3 t4 t5
        obtain ⟨⟨t0, t1, t2⟩, t3, t4, t5⟩ := X3.out
        obtain ⟨⟨v0, v1, v2⟩, v3, v4, v5⟩ := Y3.out
        go_wp2_with fail
        go_ret
        exact ⟨ret_bool (by simp), B3.out⟩
      · have hr : (C != 0) = true := by simp; exact hc
        clear HZ hc
        go_wp2_with fail
        generalize w2.alloc (.cells #[.int .i64 C, .int .i64 R, .slice tv L.length tc] 45) = W2 at *
        generalize w2.heap.size = b2 at *
        obtain ⟨⟨t0, t1, t2⟩, t3, t4, t5⟩ := X2.out
        go_wp2_with fail
        refine (HSP.out _ BW2.out).mono ?_
        rintro r w3 ⟨sv, sc, rfl, -, hb3⟩
        have AW3 := hide (below_next hb3 (below_alloc w3 (.cells #[.int .i64 C, .int .i64 R, .slice sv L.length sc] 45)))
        have Y3 := hide (Box3.new w3 (.int .i64 C) (.int .i64 R) (.slice sv L.length sc) 45)
        have X3 := hide (X2.out.below AW3.out)
        have B3 := hide (below_next B2.out AW3.out)
        clear hb3 AW3 X2 B2 t0 t1 t2 t3 t4 t5
        obtain ⟨⟨t0, t1, t2⟩, t3, t4, t5⟩ := X3.out
        obtain ⟨⟨v0, v1, v2⟩, v3, v4, v5⟩ := Y3.out
        have hCC : (C == C) = true := by simp
        go_wp2_with fail
        go_ret
        exact ⟨ret_bool (by simp), B3.out⟩
set_option maxRecDepth 100000 in
set_option maxHeartbeats 800000 in
theorem lifted (os : Os) (started : os.Started) (H : Type) (enc : TypeId × Value → H) :
    ReturnsInHanded {} Tryz.checked os 4 .any (fun w args => (Rows.fnTreesSpec.pre enc Tryz.prog Tryz.f4 Rows.fnTreesRow.domain false w args ∧ laidMetH Tryz.prog Rows.fnTreesRow.laid w) ∧ sizedMet enc Tryz.prog Tryz.f4 (OpenSpec.ofChange Rows.fnTreesSpec) false w args)
      (Rows.fnTreesSpec.post enc Tryz.prog Tryz.f4 false true false false) := by
  refine returnsInHanded_of_change_and (C := Tryz.checked) (X := fun w _ => laidMetH Tryz.prog Rows.fnTreesRow.laid w) (fun _ _ _ hh h => h.of_heap hh) own started (by kernel_rfl) Tryz.func4
    (ChangeSpec.witness_shaped (enc := enc) (C := Tryz.checked) (os := os) (X := fun w _ => laidMetH Tryz.prog Rows.fnTreesRow.laid w) false (World.laidAll Tryz.prog os Rows.fnTreesRow.laid) #[.slice none 0 0] 8 (World.laidAll_os _ _ _)
      (World.shaped_of_ZipB (by kernel_rfl) (by kernel_rfl)) (by kernel_rfl) (by kernel_rfl) (by kernel_rfl)
      (by rw [MakeChecks.laidMetH_plain _ _ _ (by kernel_rfl)]; exact laidMet_laidAll _ (by kernel_rfl) (by kernel_rfl))) ?_
  intro W base args ds gs before hval0 hW hcnd _ hL _
  have hval : ∀ (j : Nat) t v, Tryz.f4.params[j]? = some t → args[j]? = some v → Value.okWide Tryz.prog W .any base t v := hval0
  have hW' := hW
  obtain ⟨p, q, hA0, hV, rfl, hfz, hnd⟩ := hW
  have hA : DataW.TrodAll enc Tryz.prog W 0 (fun _ => true) true Tryz.f4.params.toList args.toList ds p := hA0
  rw [Tryz.params4] at hA hval
  obtain ⟨v0, vs0, d0, ds0, p0, q0, hargs0, rfl, rfl, h0, r0⟩ := trodAll_cons hA
  obtain ⟨rfl, rfl, rfl⟩ := trodAll_nil r0
  obtain rfl : args = #[v0] := by cases args; simp_all
  obtain ⟨rfl, rfl⟩ := trodVars_none hV
  obtain ⟨a0, len0, cap0, rfl⟩ := okWide_slice Tryz.underlying22 (hval 0 22 v0 rfl rfl)
  have k0 := h0
  have lt0 : ∀ x ∈ p0, x.block < W.heap.size := by obtain ⟨m, hm⟩ := k0; exact DataW.trod_lt m _ _ _ hm
  obtain ⟨fuel0, hf0⟩ := h0
  obtain ⟨zs0, hlen0, rd0, u0, mx0⟩ := bytes_of_trod (by simpa [Value.cells] using hf0)
  subst hlen0
  clear hA0 hval0
  refine (walk W a0 cap0 zs0 rd0 u0 mx0).mono fun e W' ⟨he, bel⟩ => ?_
  subst he
  exact ⟨_, rfl, _, _, _, [], _, [], hW', trodAll_mk1 (shut_bool Tryz.underlying4 _), (trodAll_cons_mk (Below.trod laidOut (by kernel_rfl) (of_decide_eq_true (by kernel_rfl)) k0 bel lt0) trodAll_mk0), rfl, bel.frame _, fun h => by cases h⟩

theorem over : Rows.fnTreesRow.holds Tryz.pinned (OpenSpec.ofChange Rows.fnTreesSpec) :=
  OpenClaim.holds_of_wide 4 Tryz.f4 rfl rfl rfl rfl rfl rfl rfl ⟨rfl, rfl, rfl, rfl, rfl⟩ rfl rfl rfl rfl rfl (by kernel_rfl) Tryz.func4 (by kernel_rfl)
    (of_decide_eq_true (by kernel_rfl)) (by unfold Func.isWrapper; first | (rw [if_pos (by decide +kernel)]; kernel_rfl) | (rw [if_neg (by decide +kernel)]; exact ⟨rfl, rfl⟩))
    (fun os started H enc _ => lifted os started H enc)
theorem card : Rows.FnTreesCardSaid :=
  Claim7.holds_tied_plain_at .later [] [.data, .data, .data] true (true, "be2e2979815470201e0109b7f045cb67dd6efba24022a4e221222245a641fa2e") true over (fun _ h => by cases h) (by kernel_rfl) (fun _ h => by cases h) fnTrees_row_tie rfl ⟨rfl, rfl⟩ (by kernel_rfl) rfl
    (fun f fn hf hfn => by
      obtain rfl : f = 4 := Option.some.inj ((show Tryz.prog.funcNamed "loop.example/g00299/laws.FnTrees" = some 4 by kernel_rfl).symm.trans hf) |>.symm
      obtain rfl : fn = Tryz.f4 := (Option.some.inj (Tryz.func4.symm.trans hfn)).symm
      exact ⟨by kernel_rfl, fun j t ht => by
        rw [Tryz.params4] at ht
        have hm : t ∈ [22] := by simpa using Array.mem_of_getElem? ht
        have hall : ([22].all fun u => !Tryz.prog.wantsStandIn u) = true := by kernel_rfl
        exact (show Tryz.prog.wantsStandIn t = false by simpa using List.all_eq_true.1 hall t hm)⟩)
    (by kernel_rfl)
end Go.Proofs.YtbdbhdgfifojoabGreatDoor.fnTrees
namespace Go.Proofs.YtbdbhdgfifojoabGreatDoor
theorem fnTreesCard_holds : Rows.FnTreesCardSaid := fnTrees.card
#print axioms fnTreesCard_holds
end Go.Proofs.YtbdbhdgfifojoabGreatDoor
