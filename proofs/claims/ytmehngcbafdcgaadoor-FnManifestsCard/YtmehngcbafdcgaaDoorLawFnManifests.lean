/-
  At every byte slice the law FnManifests returns true, and the card that ties the listed variable to the program's text: a manifest is read back from its text. No condition but what the row lists.
-/
import Derived.Test.YtmehngcbafdcgaaDoorManF
import Derived.Test.YtmehngcbafdcgaaDoorRdQ
import Derived.Test.YtmehngcbafdcgaaDoorManN
import Derived.Test.YtmehngcbafdcgaaDoorManQ
import Derived.Test.YtmehngcbafdcgaaDoorCards
import Derived.Test.YtmehngcbafdcgaaDoorTie
import Derived.ProofKit
import Derived.OpenShut
import Derived.ShutString
import Derived.ChangeOld
import Derived.LaidMore
import Derived.Lay
import Derived.SevenTiedAt
import Derived.Stop.Joined
import Derived.Stop.LaidErr
import Derived.OpenVars
import Derived.ChangeVars
import Derived.Deep.DrawnRows
import Derived.Deep.RegionHeld3
namespace Go.Proofs.YtmehngcbafdcgaaDoor.fnManifests
open Go.ChangeShapes Go.WideShapes Go.ChangeAt Go.RowKit Go.Maps
set_option linter.unusedVariables false
attribute [local go_sem ↓] Go.wp_at_zero Go.wp_at_succ

theorem own : ownKnob Tryd.prog.godebug = none := by kernel_rfl
theorem laidOut : laidOutB Tryd.prog = true := by kernel_rfl

theorem bytes_of_trod {H : Type} {enc : TypeId × Value → H} {W : World} {a : Option Addr} {n c fuel : Nat} {x : DataW H × List MemPlace}
    (h : DataW.trod enc Tryd.prog W 0 (fun _ => true) true fuel 22 [.slice a n c] = some x) : ∃ zs : List Int, zs.length = n ∧ Reads .u8 W a zs ∧ U8 zs ∧ zs.length ≤ maxLen := by
  rcases open_ints Tryd.underlying22 Tryd.underlying5 (by kernel_rfl) h with ⟨hcs, _⟩ | ⟨x, l, c, zs, hcs, _, hl, hm, hz, _, hcell, hwz⟩
  · simp at hcs
    obtain ⟨rfl, rfl, rfl⟩ := hcs
    exact ⟨[], rfl, fun h => absurd rfl h, fun z hz => by simp at hz, Nat.zero_le _⟩
  · simp at hcs
    obtain ⟨rfl, rfl, rfl⟩ := hcs
    exact reads_of_row (by simpa using hz) hl hm hcell hwz

theorem lwBig_no (a : Option Addr) (cap : Nat) (n : Nat) (w : World) (h : n ≤ 1048576) :
    Calls Tryd.prog 4 #[.slice a n cap] w fun e w' => e = .returned (.bool false) ∧ w' = w := by
  have hb : ¬ (1048576 : Int) < (n : Int) := by omega
  go_enter Tryd.func4, Tryd.ntmps4
  go_wp2
  go_ret
  exact ⟨ret_bool (by simp <;> omega), rfl⟩
theorem lwBig_yes (a : Option Addr) (cap : Nat) (n : Nat) (w : World) (h : 1048576 < n) (h2 : n ≤ maxLen) :
    Calls Tryd.prog 4 #[.slice a n cap] w fun e w' => e = .returned (.bool true) ∧ w' = w := by
  have hb : (1048576 : Int) < (n : Int) := by omega
  unfold maxLen at h2
  go_enter Tryd.func4, Tryd.ntmps4
  go_wp2
  go_ret
  exact ⟨ret_bool (by simp <;> omega), rfl⟩

theorem lwNums_m (a b : Option Addr) (c1 c2 : Nat) (ms : List Int) (w : World) (h : Reads .i64 w a ms) (h2 : Reads .i64 w b ms) (hl : ms.length ≤ 1048576) :
    Calls Tryd.prog 11 #[.slice a ms.length c1, .slice b ms.length c2] w fun e w' => e = .returned (.bool true) ∧ Below w.heap.size w w' := by
  have HA := hide h
  have HB := hide h2
  clear h h2
  go_enter Tryd.func11, Tryd.ntmps11
  go_wp2
  go_loopw [5] (fun i wr => ∃ k : Nat, k ≤ ms.length ∧ i = .int .i64 k ∧ Below w.heap.size w wr) (fun i _ => ms.length - (intOf i).toNat)
  case atStart => exact ⟨0, Nat.zero_le _, rfl, Below.refl _ _⟩
  case round =>
    obtain ⟨k, hk, rfl, hbel⟩ := hrel
    have HW := hide hbel
    clear hbel
    by_cases hlt : k < ms.length
    · have h0 : ms ≠ [] := fun e => by subst e; simp at hlt
      obtain ⟨b1, o1, rfl, hb1, hc1⟩ := (HA.out.below HW.out) h0
      obtain ⟨b2, o2, rfl, hb2, hc2⟩ := (HB.out.below HW.out) h0
      have e1 := hc1 k hlt
      have e2 := hc2 k hlt
      generalize ms.getD k 0 = z at e1 e2
      have hk0 : (0 : Int) ≤ (k : Int) := by omega
      have hk1 : (k : Int) < (ms.length : Int) := by omega
      have hzz : (z != z) = false := by simp
      clear hc1 hc2 h0
      go_wp2
      go_quiet (fail)
      go_wp2
      go_roundw
      case rel => exact ⟨k + 1, by omega, by go_num, below_drewN HW.out _⟩
      case measure => simp [intOf]; omega
    · have hke : k = ms.length := by omega
      subst hke
      go_wp2
      go_ret
      exact ⟨rfl, HW.out⟩
theorem image_more {n : Bs} {ds : List Int} (h : FitM n ds) : 8 < (imageB n ds).length := by
  obtain ⟨d, r, rfl⟩ := List.exists_cons_of_ne_nil h.some
  have e1 : imageB n (d :: r) = imageW ++ 32 :: (n ++ 32 :: joinC 32 (hexB d :: r.map hexB)) ++ [10] := by
    simp only [imageB, wordsM, List.map_cons]
    rw [joinC_two 32 imageW (by simp), joinC_two 32 n (by simp)]
  have h8 := hexB_length d
  have e2 : 8 ≤ (joinC 32 (hexB d :: r.map hexB)).length := by
    cases hr : r.map hexB with
    | nil => simp only [joinC]; omega
    | cons q s => rw [joinC_two 32 _ (by simp)]; simp only [List.length_append]; omega
  rw [e1]
  simp only [List.length_append, List.length_cons, imageW]
  omega

set_option maxRecDepth 100000 in
set_option maxHeartbeats 6400000 in
theorem walk (w : World) (u : TypeId) (vp : Value) (hg : w.cell? ⟨0, 0, none⟩ = some (.iface u vp)) (a0 : Option Addr) (cap0 : Nat) (zs : List Int) (h : Reads .u8 w a0 zs) (hu : U8 zs) (hmax : zs.length ≤ maxLen) :
    Calls Tryd.prog 3 #[.slice a0 zs.length cap0] w fun e w' => e = .returned (.bool true) ∧ Below w.heap.size w w' := by
  have HG : Hid (∀ w' : World, Below w.heap.size w w' → w'.cell? ⟨0, 0, none⟩ = some (.iface u vp)) := hide (fun w' hb => (hb.cell (p := ⟨0, 0, none⟩) (World.block_lt_of_cell? w ⟨0, 0, none⟩ hg)).trans hg)
  clear hg
  have HR := hide h
  have HU := hide hu
  clear h hu
  by_cases hbig : 1048576 < zs.length
  · go_enter Tryd.func3, Tryd.ntmps3
    go_wp2_with fail
    refine (lwBig_yes _ _ _ _ hbig hmax).mono ?_
    rintro e w ⟨rfl, rfl⟩
    go_wp2_with fail
    go_ret
    exact ⟨rfl, Below.refl _ _⟩
  · go_enter Tryd.func3, Tryd.ntmps3
    go_wp2_with fail
    refine (lwBig_no _ _ _ _ (by omega)).mono ?_
    rintro e w' ⟨rfl, rfl⟩
    go_wp2_with fail
    refine (drawParseManifest_any a0 cap0 zs _ HR.out HU.out (by omega)).mono ?_
    rintro e w1 ⟨y, rfl, hy, hb1⟩
    have B1 := hide hb1
    clear hb1
    have HI := hide (implParseManifest_any y u vp w1 (by omega) (HG.out _ B1.out))
    go_wp2_with fail
    refine HI.out.mono ?_
    rintro e w2 ⟨hres, hb2⟩
    have B2 := hide (below_next B1.out hb2)
    clear HI
    rcases hp : parseM y with _ | ⟨n, ds⟩
    · rw [hp] at hres
      have hre : e = .returned (.agg #[.int .i64 5, .string ⟨#[]⟩, .slice none 0 0]) := hres
      subst hre
      have A2 := hide (below_alloc w2 (.cells #[.int .i64 5, .string ⟨#[]⟩, .slice none 0 0] 29))
      have T2 := hide (Three.new w2 (.int .i64 5) (.string ⟨#[]⟩) (.slice none 0 0) 29)
      have HSP : Hid (∀ v : World, Calls Tryd.prog 8 #[.string (str y)] v fun r w' => r = .returned (.agg #[.int .i64 5, .string ⟨#[]⟩, .slice none 0 0]) ∧ Below v.heap.size v w') := hide (fun v => by
        have h1 := specParseManifest_any y v (by omega)
        rw [hp] at h1
        exact h1)
      clear hres hb2 hp
      go_wp2_with fail
      have hlt2 : w2.heap.size < (w2.alloc (.cells #[.int .i64 5, .string ⟨#[]⟩, .slice none 0 0] 29)).heap.size := by simp
      have B3 := hide (below_next B2.out A2.out)
      generalize w2.alloc (.cells #[.int .i64 5, .string ⟨#[]⟩, .slice none 0 0] 29) = W2 at *
      generalize w2.heap.size = b2 at *
      have m0 : ∀ v : InW (fun x => Below W2.heap.size W2 x), v.val.cell? ⟨b2, 0, none⟩ = some (.int .i64 5) := fun v => (T2.out.below v.ok).1.1
      have C1 : Hid (∀ v : InW (fun x => Below W2.heap.size W2 x), Calls Tryd.prog 8 #[.string (str y)] v.val fun r w' => r = .returned (.agg #[.int .i64 5, .string ⟨#[]⟩, .slice none 0 0]) ∧ ∃ x : InW (fun x => Below W2.heap.size W2 x), w' = x.val) := hide (fun v => (HSP.out v.val).mono (fun r w' ⟨h1, h2⟩ => ⟨h1, ⟨w', below_next v.ok h2⟩, rfl⟩))
      haveI : Nonempty (InW (fun x => Below W2.heap.size W2 x)) := ⟨⟨W2, Below.refl _ _⟩⟩
      have hfd : ∀ (w : World), (Instr.field 29 (.agg #[.int .i64 5, .string ⟨#[]⟩, .slice none 0 0]) 0).run Tryd.prog w = .ok (.int .i64 5) w := fun _ => by kernel_rfl
      refine wp_region_inv (Inv := (fun x => Below W2.heap.size W2 x)) (by kernel_rfl) (by kernel_rfl) (Below.refl _ _).drew ?_
      repeat (first | go_big_quiet_step ((go_at_call 8; exact C1.out _)) | quiet_step (fail))
      refine wpQuiet_nil ?_
      intro _ hw'
      obtain ⟨v, hw''⟩ := hw'
      subst hw''
      have B4 := hide (below_next B3.out v.ok)
      clear m0 C1 HSP T2
      generalize v.val = w4 at *
      clear v this
      go_wp2_with fail
      refine (drawPackManifest_any a0 cap0 zs _ (HR.out.below B4.out) HU.out (by omega)).mono ?_
      rintro e w5 ⟨n5, ds5, av5, cv5, rfl, hn5, hd5, rd5, hb5⟩
      have A5 := hide (below_alloc w5 (.cells #[.string (str n5), .slice av5 ds5.length cv5] 27))
      have M5 := hide (Box.new w5 (.string (str n5)) (.slice av5 ds5.length cv5) 27)
      have R5 := hide (rd5.below A5.out)
      have B5 := hide (below_next (below_next B4.out hb5) A5.out)
      clear rd5 hb5 A5
      obtain ⟨⟨q0, q1⟩, q2, q3⟩ := M5.out
      go_wp2_with fail
      clear q0 q1 q2 q3
      generalize w5.alloc (.cells #[.string (str n5), .slice av5 ds5.length cv5] 27) = W5 at *
      generalize w5.heap.size = b5 at *
      refine (implPackManifest_any n5 ds5 av5 cv5 _ R5.out (by omega) (by omega)).mono ?_
      rintro e w6 ⟨rfl, hb6⟩
      by_cases hf : manFault n5 ds5 = 0
      · have hfit := manFault_fit.1 hf
        have hpt := packText_good hf
        have hil := image_len hfit
        have him := image_more hfit
        rw [hf, hpt]
        have A6 := hide (below_alloc w6 (.cells #[.int .i64 0, .string (str (imageB n5 ds5))] 32))
        have X6 := hide (Box.new w6 (.int .i64 0) (.string (str (imageB n5 ds5))) 32)
        have BB6 := hide (below_next hb6 A6.out)
        have M6 := hide (M5.out.below BB6.out)
        have R6 := hide (R5.out.below BB6.out)
        have B6 := hide (below_next B5.out BB6.out)
        clear hb6 A6 BB6
        obtain ⟨⟨t0, t1⟩, t2, t3⟩ := X6.out
        go_wp2_with fail
        clear t0 t1 t2 t3
        generalize w6.alloc (.cells #[.int .i64 0, .string (str (imageB n5 ds5))] 32) = W6 at *
        generalize w6.heap.size = b6 at *
        have h7 := implParseManifest_any (imageB n5 ds5) u vp W6 (by omega) (HG.out _ B6.out)
        rw [parseM_of hfit] at h7
        refine h7.mono ?_
        rintro e w7 ⟨⟨av7, cv7, rfl, ho7⟩, hb7⟩
        have A7 := hide (below_alloc w7 (.cells #[.int .i64 0, .string (str n5), .slice av7 ds5.length cv7] 29))
        have T7 := hide (Three.new w7 (.int .i64 0) (.string (str n5)) (.slice av7 ds5.length cv7) 29)
        have R7 := hide ((ownInts_readsD ho7 rfl).below A7.out)
        have BB7 := hide (below_next hb7 A7.out)
        have M7 := hide (M6.out.below BB7.out)
        have RR7 := hide (R6.out.below BB7.out)
        have X7 := hide (X6.out.below BB7.out)
        have B7 := hide (below_next B6.out BB7.out)
        have hsi : (8 : Int) < ((imageB n5 ds5).length : Int) := by omega
        have hss := str_size (imageB n5 ds5)
        clear ho7 hb7 A7 BB7 h7 M6 R6 X6
        obtain ⟨⟨t0, t1, t2⟩, t3, t4, t5⟩ := T7.out
        obtain ⟨⟨m0, m1⟩, m2, m3⟩ := M7.out
        obtain ⟨⟨x0, x1⟩, x2, x3⟩ := X7.out
        go_wp2_with fail
        generalize w7.alloc (.cells #[.int .i64 0, .string (str n5), .slice av7 ds5.length cv7] 29) = W7 at *
        refine (lwNums_m av7 av5 cv7 cv5 ds5 _ R7.out RR7.out (by omega)).mono ?_
        rintro e w8 ⟨rfl, hb8⟩
        obtain ⟨⟨y0, y1⟩, y2, y3⟩ := X7.out.below hb8
        have B8 := hide (below_next B7.out hb8)
        clear hb8 x0 x1 x2 x3 m0 m1 m2 m3 t0 t1 t2 t3 t4 t5
        go_wp2_with fail
        go_ret
        exact ⟨rfl, B8.out⟩
      · have HSP := hide (fun (v : World) (hv : Reads .i64 v av5 ds5) => specPackManifest_any n5 ds5 av5 cv5 v hv (by omega) (by omega))
        generalize packText n5 ds5 = PT at *
        generalize manFault n5 ds5 = F at *
        have hfb : (F != 0) = true := by simp; exact hf
        have hff : (F == F) = true := by simp
        have A6 := hide (below_alloc w6 (.cells #[.int .i64 F, .string (str PT)] 32))
        have X6 := hide (Box.new w6 (.int .i64 F) (.string (str PT)) 32)
        have BB6 := hide (below_next hb6 A6.out)
        have M6 := hide (M5.out.below BB6.out)
        have R6 := hide (R5.out.below BB6.out)
        have B6 := hide (below_next B5.out BB6.out)
        clear hb6 A6 BB6
        obtain ⟨⟨t0, t1⟩, t2, t3⟩ := X6.out
        go_wp2_with fail
        clear t0 t1 t2 t3
        generalize w6.alloc (.cells #[.int .i64 F, .string (str PT)] 32) = W6 at *
        generalize w6.heap.size = b6 at *
        have KC : Hid (∀ w' : World, Below W6.heap.size W6 w' → (w'.cell? ⟨b5, 0, none⟩ = some (.string (str n5)) ∧ w'.cell? ⟨b5, 1, none⟩ = some (.slice av5 ds5.length cv5)) ∧ w'.cell? ⟨b6, 0, none⟩ = some (.int .i64 F)) := hide (fun w' hb' => ⟨(M6.out.below hb').1, (X6.out.below hb').1.1⟩)
        obtain ⟨⟨m0, m1⟩, t0⟩ := KC.out W6 (Below.refl _ _)
        have hfd : ∀ (w : World), (Instr.field 32 (.agg #[.int .i64 F, .string (str PT)]) 0).run Tryd.prog w = .ok (.int .i64 F) w := fun _ => by kernel_rfl
        go_region_held3 (fun w' => (w'.cell? ⟨b5, 0, none⟩ = some (.string (str n5)) ∧ w'.cell? ⟨b5, 1, none⟩ = some (.slice av5 ds5.length cv5)) ∧ w'.cell? ⟨b6, 0, none⟩ = some (.int .i64 F)) (first | exact KC.out _ BB7.out | go_keep)
          ((go_at_call 10; refine (HSP.out _ (R6.out.below (Below.refl _ _).drew)).mono ?_; rintro r w7 ⟨rfl, hb7⟩; have BB7 := hide ((Below.refl W6.heap.size W6).drew.trans hb7); clear hb7))
        go_wp2_with fail
        go_ret
        exact ⟨rfl, below_next B6.out BB7.out⟩
    · rw [hp] at hres
      obtain ⟨av, cv, rfl, ho2⟩ := hres
      obtain ⟨hfit, hiy⟩ := parseM_iff.1 hp
      have A2 := hide (below_alloc w2 (.cells #[.int .i64 0, .string (str n), .slice av ds.length cv] 29))
      have T2 := hide (Three.new w2 (.int .i64 0) (.string (str n)) (.slice av ds.length cv) 29)
      have R2 := hide ((ownInts_readsD ho2 rfl).below A2.out)
      have hm0 := manFault_fit.2 hfit
      have hpt : packText n ds = y := by rw [packText_good hm0, hiy]
      have hnl := hfit.len
      have hdl := hfit.many
      have HIP : Hid (∀ v : World, Reads .i64 v av ds → Calls Tryd.prog 7 #[.agg #[.string (str n), .slice av ds.length cv]] v fun r w' => r = .returned (.agg #[.int .i64 0, .string (str y)]) ∧ Below v.heap.size v w') := hide (fun v hv => by
        have h1 := implPackManifest_any n ds av cv v hv (by omega) (by omega)
        rw [hm0, hpt] at h1
        exact h1)
      clear hb2 hp ho2 hfit hiy hm0 hpt
      go_wp2_with fail
      have hlt2 : w2.heap.size < (w2.alloc (.cells #[.int .i64 0, .string (str n), .slice av ds.length cv] 29)).heap.size := by simp
      have B3 := hide (below_next B2.out A2.out)
      generalize w2.alloc (.cells #[.int .i64 0, .string (str n), .slice av ds.length cv] 29) = W2 at *
      generalize w2.heap.size = b2 at *
      have m0 : ∀ v : InW (fun x => Below W2.heap.size W2 x), v.val.cell? ⟨b2, 0, none⟩ = some (.int .i64 0) := fun v => (T2.out.below v.ok).1.1
      have m1 : ∀ v : InW (fun x => Below W2.heap.size W2 x), v.val.cell? ⟨b2, 1, none⟩ = some (.string (str n)) := fun v => (T2.out.below v.ok).1.2.1
      have m2 : ∀ v : InW (fun x => Below W2.heap.size W2 x), v.val.cell? ⟨b2, 2, none⟩ = some (.slice av ds.length cv) := fun v => (T2.out.below v.ok).1.2.2
      have C1 : Hid (∀ v : InW (fun x => Below W2.heap.size W2 x), Calls Tryd.prog 7 #[.agg #[.string (str n), .slice av ds.length cv]] v.val fun r w' => r = .returned (.agg #[.int .i64 0, .string (str y)]) ∧ ∃ x : InW (fun x => Below W2.heap.size W2 x), w' = x.val) := hide (fun v => (HIP.out v.val (R2.out.below v.ok)).mono (fun r w' ⟨h1, h2⟩ => ⟨h1, ⟨w', below_next v.ok h2⟩, rfl⟩))
      haveI : Nonempty (InW (fun x => Below W2.heap.size W2 x)) := ⟨⟨W2, Below.refl _ _⟩⟩
      have hfd : ∀ (w : World), (Instr.field 32 (.agg #[.int .i64 0, .string (str y)]) 1).run Tryd.prog w = .ok (.string (str y)) w := fun _ => by kernel_rfl
      refine wp_region_inv (Inv := (fun x => Below W2.heap.size W2 x)) (by kernel_rfl) (by kernel_rfl) (Below.refl _ _).drew ?_
      repeat (first | go_big_quiet_step ((go_at_call 7; exact C1.out _)) | quiet_step (fail))
      refine wpQuiet_nil ?_
      intro _ hw'
      obtain ⟨v, hw''⟩ := hw'
      subst hw''
      have B4 := hide (below_next B3.out v.ok)
      clear m0 m1 m2 C1 HIP T2
      generalize v.val = w4 at *
      clear v this
      go_wp2_with fail
      refine (drawPackManifest_any a0 cap0 zs _ (HR.out.below B4.out) HU.out (by omega)).mono ?_
      rintro e w5 ⟨n5, ds5, av5, cv5, rfl, hn5, hd5, rd5, hb5⟩
      have A5 := hide (below_alloc w5 (.cells #[.string (str n5), .slice av5 ds5.length cv5] 27))
      have M5 := hide (Box.new w5 (.string (str n5)) (.slice av5 ds5.length cv5) 27)
      have R5 := hide (rd5.below A5.out)
      have B5 := hide (below_next (below_next B4.out hb5) A5.out)
      clear rd5 hb5 A5
      obtain ⟨⟨q0, q1⟩, q2, q3⟩ := M5.out
      go_wp2_with fail
      clear q0 q1 q2 q3
      generalize w5.alloc (.cells #[.string (str n5), .slice av5 ds5.length cv5] 27) = W5 at *
      generalize w5.heap.size = b5 at *
      refine (implPackManifest_any n5 ds5 av5 cv5 _ R5.out (by omega) (by omega)).mono ?_
      rintro e w6 ⟨rfl, hb6⟩
      by_cases hf : manFault n5 ds5 = 0
      · have hfit := manFault_fit.1 hf
        have hpt := packText_good hf
        have hil := image_len hfit
        have him := image_more hfit
        rw [hf, hpt]
        have A6 := hide (below_alloc w6 (.cells #[.int .i64 0, .string (str (imageB n5 ds5))] 32))
        have X6 := hide (Box.new w6 (.int .i64 0) (.string (str (imageB n5 ds5))) 32)
        have BB6 := hide (below_next hb6 A6.out)
        have M6 := hide (M5.out.below BB6.out)
        have R6 := hide (R5.out.below BB6.out)
        have B6 := hide (below_next B5.out BB6.out)
        clear hb6 A6 BB6
        obtain ⟨⟨t0, t1⟩, t2, t3⟩ := X6.out
        go_wp2_with fail
        clear t0 t1 t2 t3
        generalize w6.alloc (.cells #[.int .i64 0, .string (str (imageB n5 ds5))] 32) = W6 at *
        generalize w6.heap.size = b6 at *
        have h7 := implParseManifest_any (imageB n5 ds5) u vp W6 (by omega) (HG.out _ B6.out)
        rw [parseM_of hfit] at h7
        refine h7.mono ?_
        rintro e w7 ⟨⟨av7, cv7, rfl, ho7⟩, hb7⟩
        have A7 := hide (below_alloc w7 (.cells #[.int .i64 0, .string (str n5), .slice av7 ds5.length cv7] 29))
        have T7 := hide (Three.new w7 (.int .i64 0) (.string (str n5)) (.slice av7 ds5.length cv7) 29)
        have R7 := hide ((ownInts_readsD ho7 rfl).below A7.out)
        have BB7 := hide (below_next hb7 A7.out)
        have M7 := hide (M6.out.below BB7.out)
        have RR7 := hide (R6.out.below BB7.out)
        have X7 := hide (X6.out.below BB7.out)
        have B7 := hide (below_next B6.out BB7.out)
        have hsi : (8 : Int) < ((imageB n5 ds5).length : Int) := by omega
        have hss := str_size (imageB n5 ds5)
        clear ho7 hb7 A7 BB7 h7 M6 R6 X6
        obtain ⟨⟨t0, t1, t2⟩, t3, t4, t5⟩ := T7.out
        obtain ⟨⟨m0, m1⟩, m2, m3⟩ := M7.out
        obtain ⟨⟨x0, x1⟩, x2, x3⟩ := X7.out
        go_wp2_with fail
        generalize w7.alloc (.cells #[.int .i64 0, .string (str n5), .slice av7 ds5.length cv7] 29) = W7 at *
        refine (lwNums_m av7 av5 cv7 cv5 ds5 _ R7.out RR7.out (by omega)).mono ?_
        rintro e w8 ⟨rfl, hb8⟩
        obtain ⟨⟨y0, y1⟩, y2, y3⟩ := X7.out.below hb8
        have B8 := hide (below_next B7.out hb8)
        clear hb8 x0 x1 x2 x3 m0 m1 m2 m3 t0 t1 t2 t3 t4 t5
        go_wp2_with fail
        go_ret
        exact ⟨rfl, B8.out⟩
      · have HSP := hide (fun (v : World) (hv : Reads .i64 v av5 ds5) => specPackManifest_any n5 ds5 av5 cv5 v hv (by omega) (by omega))
        generalize packText n5 ds5 = PT at *
        generalize manFault n5 ds5 = F at *
        have hfb : (F != 0) = true := by simp; exact hf
        have hff : (F == F) = true := by simp
        have A6 := hide (below_alloc w6 (.cells #[.int .i64 F, .string (str PT)] 32))
        have X6 := hide (Box.new w6 (.int .i64 F) (.string (str PT)) 32)
        have BB6 := hide (below_next hb6 A6.out)
        have M6 := hide (M5.out.below BB6.out)
        have R6 := hide (R5.out.below BB6.out)
        have B6 := hide (below_next B5.out BB6.out)
        clear hb6 A6 BB6
        obtain ⟨⟨t0, t1⟩, t2, t3⟩ := X6.out
        go_wp2_with fail
        clear t0 t1 t2 t3
        generalize w6.alloc (.cells #[.int .i64 F, .string (str PT)] 32) = W6 at *
        generalize w6.heap.size = b6 at *
        have KC : Hid (∀ w' : World, Below W6.heap.size W6 w' → (w'.cell? ⟨b5, 0, none⟩ = some (.string (str n5)) ∧ w'.cell? ⟨b5, 1, none⟩ = some (.slice av5 ds5.length cv5)) ∧ w'.cell? ⟨b6, 0, none⟩ = some (.int .i64 F)) := hide (fun w' hb' => ⟨(M6.out.below hb').1, (X6.out.below hb').1.1⟩)
        obtain ⟨⟨m0, m1⟩, t0⟩ := KC.out W6 (Below.refl _ _)
        have hfd : ∀ (w : World), (Instr.field 32 (.agg #[.int .i64 F, .string (str PT)]) 0).run Tryd.prog w = .ok (.int .i64 F) w := fun _ => by kernel_rfl
        go_region_held3 (fun w' => (w'.cell? ⟨b5, 0, none⟩ = some (.string (str n5)) ∧ w'.cell? ⟨b5, 1, none⟩ = some (.slice av5 ds5.length cv5)) ∧ w'.cell? ⟨b6, 0, none⟩ = some (.int .i64 F)) (first | exact KC.out _ BB7.out | go_keep)
          ((go_at_call 10; refine (HSP.out _ (R6.out.below (Below.refl _ _).drew)).mono ?_; rintro r w7 ⟨rfl, hb7⟩; have BB7 := hide ((Below.refl W6.heap.size W6).drew.trans hb7); clear hb7))
        go_wp2_with fail
        go_ret
        exact ⟨rfl, below_next B6.out BB7.out⟩

theorem gV : Tryd.prog.globalNamed "loop.example/g00299/impl.errUnread" = some 0 := by kernel_rfl
theorem gVType : (Tryd.prog.globals[0]?).map (·.type) = some 67 := by kernel_rfl
theorem gVStar : "*" ++ "errors.errorString" = "*errors.errorString" := by decide
theorem gVRow (u : TypeId) (h : Tryd.prog.typeName? 3 u = some "*errors.errorString") : u = 96 :=
  typeName_ptr_named (nm := "errors.errorString") (by rw [gVStar]; kernel_rfl) (by kernel_rfl) (by decide) u (by rw [gVStar]; exact h)
set_option maxRecDepth 100000 in
set_option maxHeartbeats 800000 in
theorem lifted (os : Os) (started : os.Started) (H : Type) (enc : TypeId × Value → H) :
    ReturnsInHanded {} Tryd.checked os 3 .any (fun w args => (Rows.fnManifestsSpec.pre enc Tryd.prog Tryd.f3 Rows.fnManifestsRow.domain false w args ∧ laidMetH Tryd.prog Rows.fnManifestsRow.laid w) ∧ sizedMet enc Tryd.prog Tryd.f3 (OpenSpec.ofChange Rows.fnManifestsSpec) false w args)
      (Rows.fnManifestsSpec.post enc Tryd.prog Tryd.f3 false true false false) := by
  refine returnsInHanded_of_change_and (C := Tryd.checked) (X := fun w _ => laidMetH Tryd.prog Rows.fnManifestsRow.laid w) (fun _ _ _ hh h => h.of_heap hh) own started (by kernel_rfl) Tryd.func3
    (ChangeSpec.witness_shaped (enc := enc) (C := Tryd.checked) (os := os) (X := fun w _ => laidMetH Tryd.prog Rows.fnManifestsRow.laid w) false (World.laidAll Tryd.prog os Rows.fnManifestsRow.laid) #[.slice none 0 0] 8 (World.laidAll_os _ _ _)
      (World.shaped_of_ZipB (by kernel_rfl) (by kernel_rfl)) (by kernel_rfl) (by kernel_rfl) (by kernel_rfl)
      (by rw [MakeChecks.laidMetH_plain _ _ _ (by kernel_rfl)]; exact laidMet_laidAll _ (by kernel_rfl) (by kernel_rfl))) ?_
  intro W base args ds gs before hval0 hW hcnd _ hL _
  have hval : ∀ (j : Nat) t v, Tryd.f3.params[j]? = some t → args[j]? = some v → Value.okWide Tryd.prog W .any base t v := hval0
  have hW' := hW
  obtain ⟨p, q, hA0, hV, rfl, hfz, hnd⟩ := hW
  have hA : DataW.TrodAll enc Tryd.prog W 0 (fun _ => true) true Tryd.f3.params.toList args.toList ds p := hA0
  rw [Tryd.params3] at hA hval
  obtain ⟨v0, vs0, d0, ds0, p0, q0, hargs0, rfl, rfl, h0, r0⟩ := trodAll_cons hA
  obtain ⟨rfl, rfl, rfl⟩ := trodAll_nil r0
  obtain rfl : args = #[v0] := by cases args; simp_all
  obtain ⟨gg, tt, ccs, ffu, gd, gp, rfl, -, -, -, -, -⟩ := trodVars_one hV
  have hL' := hL
  rw [MakeChecks.laidMetH_plain _ _ _ (by kernel_rfl)] at hL'
  obtain ⟨av1, sv1, hv1, -, -, -⟩ := laid_sentinel hL' gV gVType Tryd.underlying67 gVRow Tryd.underlying96 Tryd.underlying111 rfl rfl Tryd.underlying9 (by kernel_rfl) (by kernel_rfl)
  have hgv : W.cell? ⟨0, 0, none⟩ = some (.iface 96 (.pointer (some av1))) := by simpa using World.var?_cell gV hv1 0
  obtain ⟨a0, len0, cap0, rfl⟩ := okWide_slice Tryd.underlying22 (hval 0 22 v0 rfl rfl)
  have k0 := h0
  have lt0 : ∀ x ∈ p0, x.block < W.heap.size := by obtain ⟨m, hm⟩ := k0; exact DataW.trod_lt m _ _ _ hm
  obtain ⟨fuel0, hf0⟩ := h0
  obtain ⟨zs0, hlen0, rd0, u0, mx0⟩ := bytes_of_trod (by simpa [Value.cells] using hf0)
  subst hlen0
  clear hA0 hval0
  refine (walk W _ _ hgv a0 cap0 zs0 rd0 u0 mx0).mono fun e W' ⟨he, bel⟩ => ?_
  subst he
  exact ⟨_, rfl, _, _, _, [], _, q, hW', trodAll_mk1 (shut_bool Tryd.underlying4 _), (trodAll_cons_mk (Below.trod laidOut (by kernel_rfl) (of_decide_eq_true (by kernel_rfl)) k0 bel lt0) trodAll_mk0), bel.trodVars laidOut (by kernel_rfl) hV, bel.frame _, fun h => by cases h⟩

theorem over : Rows.fnManifestsRow.holds Tryd.pinned (OpenSpec.ofChange Rows.fnManifestsSpec) :=
  OpenClaim.holds_of_wide 3 Tryd.f3 rfl rfl rfl rfl rfl rfl rfl ⟨rfl, rfl, rfl, rfl, rfl⟩ rfl rfl rfl rfl rfl (by kernel_rfl) Tryd.func3 (by kernel_rfl)
    (of_decide_eq_true (by kernel_rfl)) (by unfold Func.isWrapper; first | (rw [if_pos (by decide +kernel)]; kernel_rfl) | (rw [if_neg (by decide +kernel)]; exact ⟨rfl, rfl⟩))
    (fun os started H enc _ => lifted os started H enc)
theorem card : Rows.FnManifestsCardSaid :=
  Claim7.holds_tied_plain_at .later [] [.sentinel] true (true, "77a2584470c7d40640df7b3cdfce91b574cf9aa9977c75f1355d230a95248823") false over (fun _ h => by cases h) (by kernel_rfl) (fun _ h => by cases h) fnManifests_row_tie rfl ⟨rfl, rfl⟩ (by kernel_rfl) rfl
    (fun f fn hf hfn => by
      obtain rfl : f = 3 := Option.some.inj ((show Tryd.prog.funcNamed "loop.example/g00299/laws.FnManifests" = some 3 by kernel_rfl).symm.trans hf) |>.symm
      obtain rfl : fn = Tryd.f3 := (Option.some.inj (Tryd.func3.symm.trans hfn)).symm
      exact ⟨by kernel_rfl, fun j t ht => by
        rw [Tryd.params3] at ht
        have hm : t ∈ [22] := by simpa using Array.mem_of_getElem? ht
        have hall : ([22].all fun u => !Tryd.prog.wantsStandIn u) = true := by kernel_rfl
        exact (show Tryd.prog.wantsStandIn t = false by simpa using List.all_eq_true.1 hall t hm)⟩)
    (by kernel_rfl)
end Go.Proofs.YtmehngcbafdcgaaDoor.fnManifests
namespace Go.Proofs.YtmehngcbafdcgaaDoor
theorem fnManifestsCard_holds : Rows.FnManifestsCardSaid := fnManifests.card
#print axioms fnManifestsCard_holds
end Go.Proofs.YtmehngcbafdcgaaDoor
