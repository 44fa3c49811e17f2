/-
  Texts put together: IntsR StoF.
-/
import Derived.Test.YtfamojijgjmcmaaKSameSt1
import Derived.Test.YtfamojijgjmcmaaKSameSt3
namespace Go.Proofs.Ytfamojijgjmcmaa
open Go.RowKit
set_option linter.unusedVariables false

def G1 (B T : Nat) (w : World) (v : Value) (ds : List Int) : Prop :=
  w.ownsRow B 2 1 v ds.length (ds.map (Value.int .i64)) ∧ ∀ b, v.ownBlock = some b → b < T
theorem G1.kept {S : Nat → Prop} {B T : Nat} {w w' : World} {v : Value} {ds : List Int} (h : G1 B T w v ds) (hk : Kept S w w') (hS : ∀ b, B ≤ b → b < T → ¬ S b) : G1 B T w' v ds :=
  ⟨ownsRow_kept h.1 hk (fun b hb => hS b (h.1.lt b hb).1 (h.2 b hb)), h.2⟩
theorem G1.own {B T : Nat} {w : World} {a : Option Addr} {c : Nat} {ds : List Int} (h : G1 B T w (.slice a ds.length c) ds) : Own .i64 w a ds := ownsRow_own h.1 rfl
end Go.Proofs.Ytfamojijgjmcmaa

namespace Go.Proofs.Ytfamojijgjmcmaa
open Go.ChangeShapes Go.WideShapes Go.ChangeAt Go.RowKit Go.Maps
set_option linter.unusedVariables false

set_option maxHeartbeats 400000 in
theorem toWant_any (d t : Int) (w : World) : Calls Try.prog 48 #[.agg #[.int .i64 d, .int .i64 t]] w fun e w' => e = .returned (.agg #[.int .i64 d, .int .i64 t]) ∧ Below w.heap.size w w' := by
  go_enter Try.func48, Try.ntmps48
  go_wp2
  exact bodyPost_ret (v := .agg #[.int .i64 d, .int .i64 t]) (by simp [results, Try.results48, go_sem]) rfl ⟨rfl, below_next (below_next (below_alloc _ _) (below_alloc _ _)) (below_alloc _ _)⟩
set_option maxHeartbeats 400000 in
theorem eqWant_same (d t : Int) (w : World) : Calls Try.prog 56 #[.agg #[.int .i64 d, .int .i64 t], .agg #[.int .i64 d, .int .i64 t]] w fun e w' => e = .returned (.bool true) ∧ Below w.heap.size w w' := by
  go_enter Try.func56, Try.ntmps56
  go_wp2
  go_ret
  exact ⟨rfl, below_next (below_alloc _ _) (below_alloc _ _)⟩
set_option maxHeartbeats 800000 in
theorem eqWantS_same (a b : Option Addr) (ca cb : Nat) (W : List Wn) (w : World) (ha : RdW w a W) (hb : RdW w b W) (hl : W.length ≤ 1048576) :
    Calls Try.prog 41 #[.slice a W.length ca, .slice b W.length cb] w fun e w' => e = .returned (.bool true) ∧ Below w.heap.size w w' := by
  have hne : ((W.length : Int) != (W.length : Int)) = false := by simp
  have HA := hide ha
  have HB := hide hb
  clear ha hb
  go_enter Try.func41, Try.ntmps41
  go_wp2
  go_loopw [5] (fun i wr => ∃ k : Nat, k ≤ W.length ∧ i = .int .i64 k ∧ Below w.heap.size w wr) (fun i _ => W.length - (intOf i).toNat)
  case atStart => exact ⟨0, Nat.zero_le _, rfl, Below.refl _ _⟩
  case round =>
    obtain ⟨k, hk, rfl, hbel⟩ := hrel
    have HW := hide hbel
    clear hbel
    by_cases hlt : k < W.length
    · obtain ⟨b1, o1, rfl, hb1, hc1⟩ := (HA.out.below HW.out) (by intro e; simp [e] at hlt)
      obtain ⟨b2, o2, rfl, hb2, hc2⟩ := (HB.out.below HW.out) (by intro e; simp [e] at hlt)
      obtain ⟨c1, e1⟩ := hc1 k hlt
      obtain ⟨c2, e2⟩ := hc2 k hlt
      generalize (W.getD k (0, 0)).1 = d at c1 c2
      generalize (W.getD k (0, 0)).2 = t at e1 e2
      have f1 : ∀ u : Lat wr, u.val.cell? ⟨b1, o1 + k * 2, none⟩ = some (.int .i64 d) := fun u => (u.ok.cell (p := ⟨b1, o1 + k * 2, none⟩) hb1).trans c1
      have f2 : ∀ u : Lat wr, u.val.cell? ⟨b1, o1 + k * 2 + 1, none⟩ = some (.int .i64 t) := fun u => (u.ok.cell (p := ⟨b1, o1 + k * 2 + 1, none⟩) hb1).trans e1
      have f3 : ∀ u : Lat wr, u.val.cell? ⟨b2, o2 + k * 2, none⟩ = some (.int .i64 d) := fun u => (u.ok.cell (p := ⟨b2, o2 + k * 2, none⟩) hb2).trans c2
      have f4 : ∀ u : Lat wr, u.val.cell? ⟨b2, o2 + k * 2 + 1, none⟩ = some (.int .i64 t) := fun u => (u.ok.cell (p := ⟨b2, o2 + k * 2 + 1, none⟩) hb2).trans e2
      have hne2 := lat_some wr
      have C1 := hide (lat_below fun u : Lat wr => eqWant_same d t u.val)
      clear hc1 hc2 c1 c2 e1 e2
      go_wp2
      refine wp_region_inv (Inv := fun x => Below wr.heap.size wr x) (by kernel_rfl) (by kernel_rfl) (Below.refl _ _).drew ?_
      repeat (first | go_big_quiet_step ((go_at_call 56; exact C1.out _)) | quiet_step (fail))
      refine wpQuiet_nil ?_
      intro _ hw'
      obtain ⟨u, hw''⟩ := hw'
      subst hw''
      have B7 := hide (below_next HW.out u.ok)
      clear f1 f2 f3 f4
      go_wp2
      go_roundw
      case rel => exact ⟨k + 1, by omega, by go_num, B7.out⟩
      case measure => simp [intOf]; omega
    · go_wp2
      go_ret
      exact ⟨rfl, HW.out⟩
set_option maxHeartbeats 400000 in
theorem szWantS_fits (a : Option Addr) (n c : Nat) (left : Int) (w : World) (h0 : left ≤ 1048576) (hn : (n : Int) ≤ left) :
    Calls Try.prog 24 #[.slice a n c, .int .i64 left] w fun e w' => e = .returned (.int .i64 (left - n)) ∧ w' = w := by
  have hw : IntKind.i64.wrap (left - n) = left - n := by simp [IntKind.wrap, IntKind.signed, IntKind.bits]; omega
  have hl : ¬ left - (n : Int) < 0 := by omega
  go_enter Try.func24, Try.ntmps24
  go_wp2
  go_ret
  exact ⟨rfl, rfl⟩
set_option maxHeartbeats 400000 in
theorem szWantS_not (a : Option Addr) (n c : Nat) (left : Int) (w : World) (h0 : 0 ≤ left) (hl : left ≤ 1048576) (hm : (n : Int) ≤ 9223372036854775807) (hn : left < (n : Int)) :
    Calls Try.prog 24 #[.slice a n c, .int .i64 left] w fun e w' => e = .returned (.int .i64 (-1)) ∧ w' = w := by
  have hw : IntKind.i64.wrap (left - n) = left - n := by simp [IntKind.wrap, IntKind.signed, IntKind.bits]; omega
  have hl2 : left - (n : Int) < 0 := by omega
  go_enter Try.func24, Try.ntmps24
  go_wp2
  go_ret
  exact ⟨rfl, rfl⟩
set_option maxHeartbeats 1600000 in
theorem toWantS_any (a : Option Addr) (c : Nat) (W : List Wn) (w : World) (h : RdW w a W) (hn : W.length ≤ 1048576) :
    Calls Try.prog 30 #[.slice a W.length c] w fun e w' => ∃ G, e = .returned (.slice (some ⟨G, 0, none⟩) W.length W.length) ∧ w.heap.size ≤ G ∧ OwnW w.heap.size w' (.slice (some ⟨G, 0, none⟩) W.length W.length) W ∧ Below w.heap.size w w' := by
  obtain ⟨i1, ki, kz0, kz1, kz2⟩ := info_parts Try.infoWn
  have HA := hide h
  clear h
  have hby : i1.bytes * W.length ≤ 281474976710656 := by rw [kz2]; omega
  have hml : W.length ≤ maxLen := by unfold maxLen; omega
  go_enter Try.func30, Try.ntmps30
  go_wp2_with (at_make; refine wpList_make_full _ rfl (.tmp 6) (.tmp 6) 36 rfl w.heap.size 52 i1 (.agg #[.int .i64 0, .int .i64 0]) 2 Try.underlying36 ki kz0 kz1 .i64 .i64 _ _ W.length rfl rfl rfl rfl hby hml (Nat.le_refl _) ?_; intro w1 ho1 hg1; have HO1 := hide ho1; have HG1 := hide hg1; clear ho1 hg1)
  have T1 : Hid (w1.ownsRow w.heap.size 52 2 (.slice (some ⟨w.heap.size, 0, none⟩) W.length W.length) W.length (flat W.length (laidW 0 W))) := by
    rw [← laidW_zero W.length W]
    exact HO1.out
  have B1 : Hid (Below w.heap.size w w1) := (Below.refl _ _).grown HG1.out (Nat.le_refl _) (fun k hk => by simp at hk)
  clear HO1 HG1
  go_loopw [4] (fun i wr => ∃ k : Nat, k ≤ W.length ∧ i = .int .i64 k ∧ Hid (wr.ownsRow w.heap.size 52 2 (.slice (some ⟨w.heap.size, 0, none⟩) W.length W.length) W.length (flat W.length (laidW k W))) ∧ Hid (Below w.heap.size w wr)) (fun i _ => W.length - (intOf i).toNat)
  case atStart => exact ⟨0, Nat.zero_le _, rfl, T1, B1⟩
  case round =>
    obtain ⟨k, hk, rfl, HT, HW⟩ := hrel
    have hsz := HW.out.size
    clear T1 B1
    by_cases hlt : k < W.length
    · obtain ⟨b1, o1, rfl, hb1, hc1⟩ := (HA.out.below HW.out) (by intro e; simp [e] at hlt)
      obtain ⟨c1, c2⟩ := hc1 k hlt
      have hf := flat_get (n := W.length) (k := 2) (F := laidW k W) (fun i _ => laidW_length _ _ _) k
      have hz0 : (flat W.length (laidW k W))[k * 2]? = some (.int .i64 0) := by
        have := hf 0 hlt (by decide)
        rw [Nat.add_zero] at this
        rw [this]; simp [laidW]
      have hz1 : (flat W.length (laidW k W))[k * 2 + 1]? = some (.int .i64 0) := by
        rw [hf 1 hlt (by decide)]; simp [laidW]
      have Z0 := hide hz0
      have Z1 := hide hz1
      have HS := hide (laidW_step (n := W.length) (W := W) hlt)
      clear hf hz0 hz1 hc1
      generalize (W.getD k (0, 0)).1 = d at *
      generalize (W.getD k (0, 0)).2 = t at *
      go_wp2_with (go_at_call 48; refine (toWant_any d t _).mono ?_; rintro e w2 ⟨rfl, hb⟩; have k1 := ownsRow_below HT.out hb; have m0 : w2.cell? ⟨w.heap.size, k * 2, none⟩ = some (.int .i64 0) := (k1.cellAt (k * 2) (by omega)).trans Z0.out; have m1 : w2.cell? ⟨w.heap.size, k * 2 + 1, none⟩ = some (.int .i64 0) := (k1.cellAt (k * 2 + 1) (by omega)).trans Z1.out; have m2 := k1.frozenAt (k * 2); have m3 := k1.frozenAt (k * 2 + 1); have K1 := hide k1; have HB2 := hide hb; clear k1 hb)
      go_roundw
      case rel => exact ⟨k + 1, by omega, by go_num, hide (by have := ((K1.out.stored (k * 2) (.int .i64 d)).1.stored (k * 2 + 1) (.int .i64 t)).1; rwa [HS.out] at this), hide (((below_next HW.out HB2.out).setCell (p := ⟨w.heap.size, k * 2, none⟩) (Nat.le_refl _) _).setCell (p := ⟨w.heap.size, k * 2 + 1, none⟩) (Nat.le_refl _) _)⟩
      case measure => simp [intOf]; omega
    · have hke : k = W.length := by omega
      subst hke
      go_wp2
      go_ret
      exact ⟨_, rfl, Nat.le_refl _, HT.out, HW.out⟩
set_option maxHeartbeats 400000 in
theorem szIs_fits (a : Option Addr) (n c : Nat) (left : Int) (w : World) (h0 : left ≤ 1048576) (hn : (n : Int) ≤ left) :
    Calls Try.prog 25 #[.slice a n c, .int .i64 left] w fun e w' => e = .returned (.int .i64 (left - n)) ∧ w' = w := by
  have hb : ¬ (left - (n : Int)) < 0 := by omega
  go_enter Try.func25, Try.ntmps25
  go_wp2
  go_ret
  exact ⟨rfl, rfl⟩
set_option maxHeartbeats 400000 in
theorem szIs_not (a : Option Addr) (n c : Nat) (left : Int) (w : World) (h0 : 0 ≤ left) (hl : left ≤ 1048576) (hm : (n : Int) ≤ 9223372036854775807) (hn : left < (n : Int)) :
    Calls Try.prog 25 #[.slice a n c, .int .i64 left] w fun e w' => e = .returned (.int .i64 (-1)) ∧ w' = w := by
  have hb : (left - (n : Int)) < 0 := by omega
  go_enter Try.func25, Try.ntmps25
  go_wp2
  go_ret
  exact ⟨rfl, rfl⟩
set_option maxHeartbeats 800000 in
theorem szFetch_fits (left : Int) (hLa : 0 ≤ left) (hLb : left ≤ 1048576) (wa : Option Addr) (wc : Nat) (W : List Wn) (fa : Option Addr) (fc : Nat) (F : List Int) (ca : Option Addr) (cc n : Nat) (D : Nat → Int) (P : Nat → List Int) (w : World) (h : RdF w wa W fa F ca D P n) (hn : (W.length : Int) + F.length + n + ahead P n ≤ left) :
    Calls Try.prog 10 #[fetV wa W.length wc fa F.length fc ca n cc, .int .i64 left] w fun e w' => e = .returned (.int .i64 (left - W.length - F.length - n - ahead P n)) ∧ Below w.heap.size w w' := by
  have B0 := hide (below_alloc w (.cells #[.slice wa W.length wc, .slice fa F.length fc, .slice ca n cc] 27))
  have HC := hide (szChunkS_fits ca cc n D P (left - W.length - F.length) _ (h.chunks.below B0.out) (by omega) (by omega))
  have h1 : ¬ left - W.length < 0 := by omega
  have h2 : ¬ left - W.length - F.length < 0 := by omega
  have h3 : ¬ left - W.length - F.length - n - ahead P n < 0 := by omega
  have HW1 := hide (show (W.length : Int) ≤ left by omega)
  have HF1 := hide (show left - W.length ≤ 1048576 ∧ (F.length : Int) ≤ left - W.length by omega)
  clear h hn
  unfold fetV
  go_enter Try.func10, Try.ntmps10
  go_wp2_with fail
  refine (szWantS_fits wa W.length wc left _ hLb HW1.out).mono ?_
  rintro e w1 ⟨rfl, rfl⟩
  go_wp2_with fail
  refine (szIs_fits fa F.length fc (left - W.length) _ HF1.out.1 HF1.out.2).mono ?_
  rintro e w1 ⟨rfl, rfl⟩
  go_wp2_with fail
  refine HC.out.mono ?_
  rintro e w1 ⟨rfl, hb1⟩
  have B1 := hide (below_next B0.out hb1)
  clear hb1 B0
  go_wp2_with fail
  go_ret
  exact ⟨rfl, B1.out⟩
set_option maxHeartbeats 1600000 in
theorem szFetch_not (left : Int) (hLa : 0 ≤ left) (hLb : left ≤ 1048576) (wa : Option Addr) (wc : Nat) (W : List Wn) (fa : Option Addr) (fc : Nat) (F : List Int) (ca : Option Addr) (cc n : Nat) (D : Nat → Int) (P : Nat → List Int) (w : World) (h : RdF w wa W fa F ca D P n) (hWm : W.length ≤ maxLen) (hFm : F.length ≤ maxLen) (hnm : n ≤ maxLen) (hPm : ∀ i, i < n → ((P i).length : Int) ≤ 9223372036854775807) (hn : ¬ (W.length : Int) + F.length + n + ahead P n ≤ left) :
    Calls Try.prog 10 #[fetV wa W.length wc fa F.length fc ca n cc, .int .i64 left] w fun e w' => e = .returned (.int .i64 (-1)) ∧ Below w.heap.size w w' := by
  unfold maxLen at hWm hFm hnm
  have B0 := hide (below_alloc w (.cells #[.slice wa W.length wc, .slice fa F.length fc, .slice ca n cc] 27))
  unfold fetV
  by_cases c1 : (W.length : Int) ≤ left
  · have h1 : ¬ left - W.length < 0 := by omega
    by_cases c2 : (F.length : Int) ≤ left - W.length
    · have h2 : ¬ left - W.length - F.length < 0 := by omega
      have HC := hide (szChunkS_not ca cc n D P (left - W.length - F.length) _ (h.chunks.below B0.out) (by omega) (by omega) (by omega) hPm (by omega))
      have C1 := hide c1
      have C2 := hide (show left - W.length ≤ 1048576 ∧ (F.length : Int) ≤ left - W.length by omega)
      clear h hn hPm c1 c2
      go_enter Try.func10, Try.ntmps10
      go_wp2_with fail
      refine (szWantS_fits wa W.length wc left _ hLb C1.out).mono ?_
      rintro e w1 ⟨rfl, rfl⟩
      go_wp2_with fail
      refine (szIs_fits fa F.length fc (left - W.length) _ C2.out.1 C2.out.2).mono ?_
      rintro e w1 ⟨rfl, rfl⟩
      go_wp2_with fail
      refine HC.out.mono ?_
      rintro e w1 ⟨rfl, hb1⟩
      have B1 := hide (below_next B0.out hb1)
      clear hb1 B0
      go_wp2_with fail
      go_ret
      exact ⟨rfl, B1.out⟩
    · have C1 := hide c1
      have C2 := hide (show (0 : Int) ≤ left - W.length ∧ left - W.length ≤ 1048576 ∧ (F.length : Int) ≤ 9223372036854775807 ∧ left - W.length < F.length by omega)
      clear h hn hPm c1 c2
      go_enter Try.func10, Try.ntmps10
      go_wp2_with fail
      refine (szWantS_fits wa W.length wc left _ hLb C1.out).mono ?_
      rintro e w1 ⟨rfl, rfl⟩
      go_wp2_with fail
      refine (szIs_not fa F.length fc (left - W.length) _ C2.out.1 C2.out.2.1 C2.out.2.2.1 C2.out.2.2.2).mono ?_
      rintro e w1 ⟨rfl, rfl⟩
      go_wp2_with fail
      go_ret
      exact ⟨rfl, B0.out⟩
  · have C1 := hide (show (W.length : Int) ≤ 9223372036854775807 ∧ left < W.length by omega)
    clear h hn hPm c1
    go_enter Try.func10, Try.ntmps10
    go_wp2_with fail
    refine (szWantS_not wa W.length wc left _ hLa hLb C1.out.1 C1.out.2).mono ?_
    rintro e w1 ⟨rfl, rfl⟩
    go_wp2_with fail
    go_ret
    exact ⟨rfl, B0.out⟩
set_option maxRecDepth 100000 in
set_option maxHeartbeats 1600000 in
theorem toFetch_any (wa : Option Addr) (wc : Nat) (W : List Wn) (fa : Option Addr) (fc : Nat) (F : List Int) (ca : Option Addr) (cc n : Nat) (D : Nat → Int) (P : Nat → List Int) (w : World) (h : RdF w wa W fa F ca D P n) (hW : W.length ≤ 1048576) (hF : F.length ≤ 1048576) (hn : n ≤ 1048576) (hP : ∀ i, i < n → (P i).length ≤ 1048576) :
    Calls Try.prog 15 #[fetV wa W.length wc fa F.length fc ca n cc] w fun e w' => ∃ g1 g2 g3, e = .returned (fetV (some ⟨g1, 0, none⟩) W.length W.length (some ⟨g2, 0, none⟩) F.length F.length (some ⟨g3, 0, none⟩) n n) ∧ RdF w' (some ⟨g1, 0, none⟩) W (some ⟨g2, 0, none⟩) F (some ⟨g3, 0, none⟩) D P n ∧ Below w.heap.size w w' := by
  have HR := hide h
  have HP := hide hP
  clear h hP
  unfold fetV
  have B0 := hide (below_next (below_next (below_alloc w (.cells #[.slice wa W.length wc, .slice fa F.length fc, .slice ca n cc] 27)) (below_alloc _ (.cells #[.slice none 0 0, .slice none 0 0, .slice none 0 0] 39))) (below_alloc _ (.cells #[.slice none 0 0, .slice none 0 0, .slice none 0 0] 39)))
  have X0 := hide (((Bx3.new w (.slice wa W.length wc) (.slice fa F.length fc) (.slice ca n cc) 27).below (below_alloc _ (.cells #[.slice none 0 0, .slice none 0 0, .slice none 0 0] 39))).below (below_alloc _ (.cells #[.slice none 0 0, .slice none 0 0, .slice none 0 0] 39)))
  go_enter Try.func15, Try.ntmps15
  go_wp2_with fail
  have XR := hide ((Bx3.new (w.alloc (.cells #[.slice wa W.length wc, .slice fa F.length fc, .slice ca n cc] 27)) (.slice none 0 0) (.slice none 0 0) (.slice none 0 0) 39).below (below_alloc _ (.cells #[.slice none 0 0, .slice none 0 0, .slice none 0 0] 39)))
  have XO := hide (Bx3.new ((w.alloc (.cells #[.slice wa W.length wc, .slice fa F.length fc, .slice ca n cc] 27)).alloc (.cells #[.slice none 0 0, .slice none 0 0, .slice none 0 0] 39)) (.slice none 0 0) (.slice none 0 0) (.slice none 0 0) 39)
  have hs : (((w.alloc (.cells #[.slice wa W.length wc, .slice fa F.length fc, .slice ca n cc] 27)).alloc (.cells #[.slice none 0 0, .slice none 0 0, .slice none 0 0] 39)).alloc (.cells #[.slice none 0 0, .slice none 0 0, .slice none 0 0] 39)).heap.size = w.heap.size + 3 := by simp
  have hs1 : (w.alloc (.cells #[.slice wa W.length wc, .slice fa F.length fc, .slice ca n cc] 27)).heap.size = w.heap.size + 1 := by simp
  have hs2 : ((w.alloc (.cells #[.slice wa W.length wc, .slice fa F.length fc, .slice ca n cc] 27)).alloc (.cells #[.slice none 0 0, .slice none 0 0, .slice none 0 0] 39)).heap.size = w.heap.size + 1 + 1 := by simp
  rw [hs1] at XR
  rw [hs2] at XO
  clear hs1 hs2
  generalize ((w.alloc (.cells #[.slice wa W.length wc, .slice fa F.length fc, .slice ca n cc] 27)).alloc (.cells #[.slice none 0 0, .slice none 0 0, .slice none 0 0] 39)).alloc (.cells #[.slice none 0 0, .slice none 0 0, .slice none 0 0] 39) = W0 at *
  refine (toWantS_any wa wc W W0 (HR.out.wants.below B0.out) hW).mono ?_
  rintro e w1 ⟨g1, rfl, hg1, ho1, hb1⟩
  have O1 := hide ho1
  have X01 := hide (X0.out.below hb1)
  have XR1 := hide (XR.out.below hb1)
  have XO1 := hide (XO.out.below hb1)
  have B1 := hide (below_next B0.out hb1)
  have hz1 := hb1.size
  clear ho1 hb1 X0 XR XO B0
  obtain ⟨⟨t0, t1, t2⟩, -, -, -⟩ := X01.out
  obtain ⟨⟨y0, y1, y2⟩, y3, y4, y5⟩ := XO1.out
  have A2 : Hid (Bx3 (w1.setCell ⟨w.heap.size + 1 + 1, 0, none⟩ (.slice (some ⟨g1, 0, none⟩) W.length W.length)) w.heap.size (.slice wa W.length wc) (.slice fa F.length fc) (.slice ca n cc)) := hide (X01.out.kept (Kept.one _ _ _ _) (by omega))
  have A3 : Hid (Bx3 (w1.setCell ⟨w.heap.size + 1 + 1, 0, none⟩ (.slice (some ⟨g1, 0, none⟩) W.length W.length)) (w.heap.size + 1) (.slice none 0 0) (.slice none 0 0) (.slice none 0 0)) := hide (XR1.out.kept (Kept.one _ _ _ _) (by omega))
  have A4 := hide (XO1.out.set0 (.slice (some ⟨g1, 0, none⟩) W.length W.length))
  have A5 : Hid (OwnW W0.heap.size (w1.setCell ⟨w.heap.size + 1 + 1, 0, none⟩ (.slice (some ⟨g1, 0, none⟩) W.length W.length)) (.slice (some ⟨g1, 0, none⟩) W.length W.length) W) := hide (ownsRow_kept O1.out (Kept.one _ _ _ _) (fun b hb e => by have := (World.ownsRow.lt O1.out b hb).1; omega))
  have A6 : Hid (Below w.heap.size w (w1.setCell ⟨w.heap.size + 1 + 1, 0, none⟩ (.slice (some ⟨g1, 0, none⟩) W.length W.length))) := hide (B1.out.setCell (by show w.heap.size ≤ w.heap.size + 1 + 1; omega) _)
  have A7 : (w1.setCell ⟨w.heap.size + 1 + 1, 0, none⟩ (.slice (some ⟨g1, 0, none⟩) W.length W.length)).heap.size = w1.heap.size := by simp [World.setCell]
  obtain ⟨⟨q0, q1, q2⟩, -, -, -⟩ := A2.out
  go_wp2_with fail
  clear t0 t1 t2 y0 y1 y2 y3 y4 y5 q0 q1 q2 O1 X01 XR1 XO1 B1
  generalize w1.setCell ⟨w.heap.size + 1 + 1, 0, none⟩ (.slice (some ⟨g1, 0, none⟩) W.length W.length) = W1 at *
  refine (toInt64S_at fa fc F W1 (HR.out.failed.below A6.out) hF).mono ?_
  rintro e w2 ⟨g2, rfl, hg2, hl2, ho2, hb2⟩
  have O2 := hide ho2.reads
  have X02 := hide (A2.out.below hb2)
  have XR2 := hide (A3.out.below hb2)
  have XO2 := hide (A4.out.below hb2)
  have OW2 : Hid (OwnW W0.heap.size w2 (.slice (some ⟨g1, 0, none⟩) W.length W.length) W) := hide (ownsRow_below A5.out hb2)
  have B2 := hide (below_next A6.out hb2)
  have hz2 := hb2.size
  clear ho2 hb2 A2 A3 A4 A5 A6
  obtain ⟨⟨y0, y1, y2⟩, y3, y4, y5⟩ := XO2.out
  have D2 : Hid (Bx3 (w2.setCell ⟨w.heap.size + 1 + 1, 1, none⟩ (.slice (some ⟨g2, 0, none⟩) F.length F.length)) w.heap.size (.slice wa W.length wc) (.slice fa F.length fc) (.slice ca n cc)) := hide (X02.out.kept (Kept.one _ _ _ _) (by omega))
  have D3 : Hid (Bx3 (w2.setCell ⟨w.heap.size + 1 + 1, 1, none⟩ (.slice (some ⟨g2, 0, none⟩) F.length F.length)) (w.heap.size + 1) (.slice none 0 0) (.slice none 0 0) (.slice none 0 0)) := hide (XR2.out.kept (Kept.one _ _ _ _) (by omega))
  have D4 := hide (XO2.out.set1 (.slice (some ⟨g2, 0, none⟩) F.length F.length))
  have D5 : Hid (OwnW W0.heap.size (w2.setCell ⟨w.heap.size + 1 + 1, 1, none⟩ (.slice (some ⟨g2, 0, none⟩) F.length F.length)) (.slice (some ⟨g1, 0, none⟩) W.length W.length) W) := hide (ownsRow_kept OW2.out (Kept.one _ _ _ _) (fun b hb e => by have := (World.ownsRow.lt OW2.out b hb).1; omega))
  have D5b : Hid (Reads .i64 (w2.setCell ⟨w.heap.size + 1 + 1, 1, none⟩ (.slice (some ⟨g2, 0, none⟩) F.length F.length)) (some ⟨g2, 0, none⟩) F) := hide (O2.out.kept (Kept.one _ _ _ _) (fun _ x hx e => by simp only [Option.some.injEq] at hx; subst hx; simp only at e; omega))
  have D6 : Hid (Below w.heap.size w (w2.setCell ⟨w.heap.size + 1 + 1, 1, none⟩ (.slice (some ⟨g2, 0, none⟩) F.length F.length))) := hide (B2.out.setCell (by show w.heap.size ≤ w.heap.size + 1 + 1; omega) _)
  have D7 : (w2.setCell ⟨w.heap.size + 1 + 1, 1, none⟩ (.slice (some ⟨g2, 0, none⟩) F.length F.length)).heap.size = w2.heap.size := by simp [World.setCell]
  obtain ⟨⟨q0, q1, q2⟩, -, -, -⟩ := D2.out
  go_wp2_with fail
  clear y0 y1 y2 y3 y4 y5 q0 q1 q2 O2 X02 XR2 XO2 OW2 B2
  generalize w2.setCell ⟨w.heap.size + 1 + 1, 1, none⟩ (.slice (some ⟨g2, 0, none⟩) F.length F.length) = W2 at *
  refine (toChunkS_any ca cc n D P W2 (HR.out.chunks.below D6.out) hn HP.out).mono ?_
  rintro e w3 ⟨g3, rfl, hg3, ho3, hb3⟩
  have O3 := hide ho3
  have XR3 := hide (D3.out.below hb3)
  have XO3 := hide (D4.out.below hb3)
  have OW3 : Hid (OwnW W0.heap.size w3 (.slice (some ⟨g1, 0, none⟩) W.length W.length) W) := hide (ownsRow_below D5.out hb3)
  have OF3 := hide (D5b.out.below hb3)
  have B3 := hide (below_next D6.out hb3)
  have hz3 := hb3.size
  clear ho3 hb3 D2 D3 D4 D5 D5b D6
  obtain ⟨⟨y0, y1, y2⟩, y3, y4, y5⟩ := XO3.out
  have E3 : Hid (Bx3 (w3.setCell ⟨w.heap.size + 1 + 1, 2, none⟩ (.slice (some ⟨g3, 0, none⟩) n n)) (w.heap.size + 1) (.slice none 0 0) (.slice none 0 0) (.slice none 0 0)) := hide (XR3.out.kept (Kept.one _ _ _ _) (by omega))
  have E4 : Hid (Bx3 (w3.setCell ⟨w.heap.size + 1 + 1, 2, none⟩ (.slice (some ⟨g3, 0, none⟩) n n)) (w.heap.size + 1 + 1) (.slice (some ⟨g1, 0, none⟩) W.length W.length) (.slice (some ⟨g2, 0, none⟩) F.length F.length) (.slice (some ⟨g3, 0, none⟩) n n)) := hide (by
    obtain ⟨⟨m0, m1, m2⟩, f0, f1, f2⟩ := XO3.out
    refine ⟨⟨?_, ?_, cell_set_same m2⟩, ?_, ?_, ?_⟩
    · rw [cell_set_other (by simp)]; exact m0
    · rw [cell_set_other (by simp)]; exact m1
    · rw [World.frozen?_setCell]; exact f0
    · rw [World.frozen?_setCell]; exact f1
    · rw [World.frozen?_setCell]; exact f2)
  obtain ⟨⟨r0, r1, r2⟩, r3, r4, r5⟩ := E3.out
  obtain ⟨⟨s0, s1, s2⟩, s3, s4, s5⟩ := E4.out
  go_wp2_with fail
  have hk : Kept (fun b => b = w.heap.size + 1 ∨ b = w.heap.size + 1 + 1) w3 (((((w3.setCell ⟨w.heap.size + 1 + 1, 2, none⟩ (.slice (some ⟨g3, 0, none⟩) n n))).setCell ⟨w.heap.size + 1, 0, none⟩ (.slice (some ⟨g1, 0, none⟩) W.length W.length)).setCell ⟨w.heap.size + 1, 1, none⟩ (.slice (some ⟨g2, 0, none⟩) F.length F.length)).setCell ⟨w.heap.size + 1, 2, none⟩ (.slice (some ⟨g3, 0, none⟩) n n)) :=
    Kept.setCell (p := ⟨w.heap.size + 1, 2, none⟩) (Kept.setCell (p := ⟨w.heap.size + 1, 1, none⟩) (Kept.setCell (p := ⟨w.heap.size + 1, 0, none⟩) (Kept.setCell (p := ⟨w.heap.size + 1 + 1, 2, none⟩) (Kept.refl _ _) (fun _ => .inr rfl) _) (fun _ => .inl rfl) _) (fun _ => .inl rfl) _) (fun _ => .inl rfl) _
  refine bodyPost_ret (v := .agg #[.slice (some ⟨g1, 0, none⟩) W.length W.length, .slice (some ⟨g2, 0, none⟩) F.length F.length, .slice (some ⟨g3, 0, none⟩) n n]) (by simp [results, Try.results15, go_sem, r0, r1, r2]) rfl ⟨g1, g2, g3, rfl, ⟨?_, ?_, ?_⟩, B3.out.trans (hk.below B3.out.size (fun k hk hS => by omega))⟩
  · exact OwnW.rd (B := W0.heap.size) (n := W.length) (c := W.length) (ownsRow_kept OW3.out hk (fun b hb hS => by have := (World.ownsRow.lt OW3.out b hb).1; omega))
  · exact OF3.out.kept hk (fun _ x hx e => by simp only [Option.some.injEq] at hx; subst hx; simp only at e; omega)
  · exact (O3.out.kept hk (fun b h1 h2 hS => by omega)).rd
set_option maxHeartbeats 800000 in
theorem eqFetch_same (wa wa2 : Option Addr) (wc wc2 : Nat) (W : List Wn) (fa fa2 : Option Addr) (fc fc2 : Nat) (F : List Int) (ca ca2 : Option Addr) (cc cc2 n : Nat) (D : Nat → Int) (P : Nat → List Int) (w : World) (h : RdF w wa W fa F ca D P n) (h2 : RdF w wa2 W fa2 F ca2 D P n) (hW : W.length ≤ 1048576) (hF : F.length ≤ 1048576) (hn : n ≤ 1048576) (hP : ∀ i, i < n → (P i).length ≤ 1048576) :
    Calls Try.prog 21 #[fetV wa W.length wc fa F.length fc ca n cc, fetV wa2 W.length wc2 fa2 F.length fc2 ca2 n cc2] w fun e w' => e = .returned (.bool true) ∧ Below w.heap.size w w' := by
  have HA := hide h
  have HB := hide h2
  have HP := hide hP
  clear h h2 hP
  unfold fetV
  have B0 := hide (below_next (below_alloc w (.cells #[.slice wa W.length wc, .slice fa F.length fc, .slice ca n cc] 39)) (below_alloc _ (.cells #[.slice wa2 W.length wc2, .slice fa2 F.length fc2, .slice ca2 n cc2] 39)))
  have X0 := hide ((Bx3.new w (.slice wa W.length wc) (.slice fa F.length fc) (.slice ca n cc) 39).below (below_alloc _ (.cells #[.slice wa2 W.length wc2, .slice fa2 F.length fc2, .slice ca2 n cc2] 39)))
  have Y0 := hide (Bx3.new (w.alloc (.cells #[.slice wa W.length wc, .slice fa F.length fc, .slice ca n cc] 39)) (.slice wa2 W.length wc2) (.slice fa2 F.length fc2) (.slice ca2 n cc2) 39)
  have hs : (w.alloc (.cells #[.slice wa W.length wc, .slice fa F.length fc, .slice ca n cc] 39)).heap.size = w.heap.size + 1 := by simp
  rw [hs] at Y0
  clear hs
  go_enter Try.func21, Try.ntmps21
  go_wp2_with fail
  generalize (w.alloc (.cells #[.slice wa W.length wc, .slice fa F.length fc, .slice ca n cc] 39)).alloc (.cells #[.slice wa2 W.length wc2, .slice fa2 F.length fc2, .slice ca2 n cc2] 39) = W0 at *
  refine (eqWantS_same wa wa2 wc wc2 W W0 (HA.out.wants.below B0.out) (HB.out.wants.below B0.out) hW).mono ?_
  rintro e w1 ⟨rfl, hb1⟩
  have B1 := hide (below_next B0.out hb1)
  obtain ⟨⟨x0, x1, x2⟩, -, -, -⟩ := X0.out.below hb1
  obtain ⟨⟨y0, y1, y2⟩, -, -, -⟩ := Y0.out.below hb1
  have BX1 := hide hb1
  clear hb1
  go_wp2_with fail
  clear x0 x1 x2 y0 y1 y2
  refine (eqInt64S_b fa fa2 fc fc2 F w1 (HA.out.failed.below B1.out) (HB.out.failed.below B1.out) hF).mono ?_
  rintro e w2 ⟨rfl, hb2⟩
  have B2 := hide (below_next B1.out hb2)
  obtain ⟨⟨x0, x1, x2⟩, -, -, -⟩ := X0.out.below (below_next BX1.out hb2)
  obtain ⟨⟨y0, y1, y2⟩, -, -, -⟩ := Y0.out.below (below_next BX1.out hb2)
  clear hb2
  go_wp2_with fail
  clear x0 x1 x2 y0 y1 y2
  refine (eqChunkS_same ca ca2 cc cc2 n D P w2 (HA.out.chunks.below B2.out) (HB.out.chunks.below B2.out) hn HP.out).mono ?_
  rintro e w3 ⟨rfl, hb3⟩
  have B3 := hide (below_next B2.out hb3)
  clear hb3
  go_wp2_with fail
  go_ret
  exact ⟨rfl, B3.out⟩
theorem trod_three {H : Type} {enc : TypeId × Value → H} {P : Program} {w : World} {base : Nat} {spare : Nat → Bool} {held : Bool} {t : TypeId} {f0 f1 f2 : Field} {fuel : Nat} {cs : List Value} {x : DataW H × List MemPlace}
    (he : P.underlying t = some (.struct #[f0, f1, f2])) (ce : P.cellsOf t = 3) (o0 : f0.offset = 0) (o1 : f1.offset = 1) (o2 : f2.offset = 2)
    (c0 : P.cellsOf f0.type = 1) (c1 : P.cellsOf f1.type = 1) (c2 : P.cellsOf f2.type = 1) (h : DataW.trod enc P w base spare held fuel t cs = some x) :
    ∃ (v0 v1 v2 : Value) (n : Nat) (y0 y1 y2 : DataW H × List MemPlace), cs = [v0, v1, v2] ∧ DataW.trod enc P w base spare held n f0.type [v0] = some y0 ∧ DataW.trod enc P w base spare held n f1.type [v1] = some y1 ∧ DataW.trod enc P w base spare held n f2.type [v2] = some y2 := by
  obtain ⟨xs, k, hk, hxy, hlen, hxl, hf⟩ := DataW.trod_struct he h
  rw [ce] at hlen
  match xs, hxl, cs, hlen with
  | [y0, y1, y2], _, [v0, v1, v2], _ =>
    have g0 := hf 0 f0 rfl
    have g1 := hf 1 f1 rfl
    have g2 := hf 2 f2 rfl
    simp [o0, o1, o2, c0, c1, c2] at g0 g1 g2
    exact ⟨v0, v1, v2, k, y0, y1, y2, rfl, g0, g1, g2⟩
theorem rdW_of_trod {H : Type} {enc : TypeId × Value → H} {W : World} {a : Option Addr} {n c fuel : Nat} {x : DataW H × List MemPlace}
    (h : DataW.trod enc Try.prog W 0 (fun _ => true) true fuel 23 [.slice a n c] = some x) : ∃ Ws : List Wn, Ws.length = n ∧ RdW W a Ws ∧ n ≤ maxLen := by
  rcases Deep.open_slice_pairs Try.underlying23 Try.underlying94 (by kernel_rfl) rfl rfl (by kernel_rfl) (by kernel_rfl) h with ⟨hcs, _⟩ | ⟨x, l, cp, m, fu, V0, V1, D0, D1, P0, P1, hcs, _, hl, hm, hmm, _, hx⟩
  · simp at hcs
    obtain ⟨rfl, rfl, rfl⟩ := hcs
    exact ⟨[], rfl, fun h => absurd rfl h, Nat.zero_le _⟩
  · simp at hcs
    obtain ⟨rfl, rfl, rfl⟩ := hcs
    simp only [if_true] at hmm
    subst hmm
    have each : ∀ i, i < n → ∃ q : Wn, V0 i = .int .i64 q.1 ∧ V1 i = .int .i64 q.2 := by
      intro i hi
      obtain ⟨c0, c1, t0, t1⟩ := hx i (by omega)
      obtain ⟨z, hz, _, hw⟩ := DataW.trod_int Try.underlying2 t0
      obtain ⟨z2, hz2, _, hw2⟩ := DataW.trod_int Try.underlying2 t1
      simp at hz hz2
      exact ⟨(z, z2), hz, hz2⟩
    obtain ⟨q, hq⟩ := Deep.choose_lt each
    have hg : ∀ i, i < n → ((List.range n).map q).getD i (0, 0) = q i := fun i hi => by simp [List.getD_eq_getElem?_getD, hi]
    refine ⟨(List.range n).map q, by simp, ?_, by omega⟩
    intro hne
    have hn : 0 < n := by
      rcases Nat.eq_zero_or_pos n with h | h
      · subst h; exact absurd rfl hne
      · exact h
    obtain ⟨b, off, spot⟩ := x
    have hc0 := (hx 0 (by omega)).1
    have hspot : spot = none := by simpa [Addr.add] using World.cell?_spot hc0
    subst hspot
    refine ⟨b, off, rfl, World.block_lt_of_cell? W _ (by simpa [Addr.add] using hc0), fun i hi => ?_⟩
    have hi : i < n := by simpa using hi
    obtain ⟨c0, c1, _, _⟩ := hx i (by omega)
    obtain ⟨e0, e1⟩ := hq i hi
    have ea : ∀ t, (⟨b, off, none⟩ : Addr).add t = ⟨b, off + t, none⟩ := fun t => by unfold Addr.add; split <;> simp_all
    rw [ea, e0] at c0
    rw [ea, e1] at c1
    rw [hg i hi]
    exact ⟨c0, by rw [Nat.add_assoc]; exact c1⟩
theorem fetch_of_trod {H : Type} {enc : TypeId × Value → H} {W : World} {fuel : Nat} {cs : List Value} {x : DataW H × List MemPlace}
    (h : DataW.trod enc Try.prog W 0 (fun _ => true) true fuel 27 cs = some x) :
    ∃ (wa : Option Addr) (wc : Nat) (Ws : List Wn) (fa : Option Addr) (fc : Nat) (F : List Int) (ca : Option Addr) (cc n : Nat) (D : Nat → Int) (P : Nat → List Int), cs = [.slice wa Ws.length wc, .slice fa F.length fc, .slice ca n cc] ∧ RdF W wa Ws fa F ca D P n ∧ (Ws.length ≤ maxLen ∧ F.length ≤ maxLen ∧ n ≤ maxLen) ∧ ∀ i, i < n → (Lit.int .i64 (D i)).wf = true ∧ U8 (P i) ∧ (P i).length ≤ maxLen := by
  obtain ⟨v0, v1, v2, m, y0, y1, y2, rfl, g0, g1, g2⟩ := trod_three Try.underlying27 (by kernel_rfl) rfl rfl rfl (by kernel_rfl) (by kernel_rfl) (by kernel_rfl) h
  obtain ⟨a0, n0, k0, e0⟩ : ∃ a n k, v0 = .slice a n k := by
    rcases Deep.open_slice_pairs Try.underlying23 Try.underlying94 (by kernel_rfl) rfl rfl (by kernel_rfl) (by kernel_rfl) g0 with ⟨hcs, _⟩ | ⟨x, l, cp, m, fu, V0, V1, D0, D1, P0, P1, hcs, _⟩
    · simp at hcs; exact ⟨_, _, _, hcs⟩
    · simp at hcs; exact ⟨_, _, _, hcs⟩
  obtain ⟨a1, n1, k1, e1⟩ : ∃ a n k, v1 = .slice a n k := by
    rcases open_ints Try.underlying24 Try.underlying2 (by kernel_rfl) g1 with ⟨hcs, _⟩ | ⟨x, l, c, zs, hcs, _⟩
    · simp at hcs; exact ⟨_, _, _, hcs⟩
    · simp at hcs; exact ⟨_, _, _, hcs⟩
  obtain ⟨a2, n2, k2, e2⟩ : ∃ a n k, v2 = .slice a n k := by
    rcases Deep.open_slice_pairs Try.underlying25 Try.underlying89 (by kernel_rfl) rfl rfl (by kernel_rfl) (by kernel_rfl) g2 with ⟨hcs, _⟩ | ⟨x, l, cp, m, fu, V0, V1, D0, D1, P0, P1, hcs, _⟩
    · simp at hcs; exact ⟨_, _, _, hcs⟩
    · simp at hcs; exact ⟨_, _, _, hcs⟩
  subst e0 e1 e2
  obtain ⟨Ws, rfl, hw, hm0⟩ := rdW_of_trod g0
  obtain ⟨F, rfl, hf, -, hm1⟩ := ints_of_trod g1
  obtain ⟨D, P, hc, hm2, hin⟩ := rdC_of_trod g2
  exact ⟨a0, k0, Ws, a1, k1, F, a2, k2, n2, D, P, rfl, ⟨hw, hf, hc⟩, ⟨hm0, hm1, hm2⟩, hin⟩
structure GF (B T : Nat) (w : World) (wa : Option Addr) (wc : Nat) (W : List Wn) (fa : Option Addr) (fc : Nat) (F : List Int) (ca : Option Addr) (cc n : Nat) (D : Nat → Int) (P : Nat → List Int) : Prop where
  wants : OwnW B w (.slice wa W.length wc) W
  failed : G1 B T w (.slice fa F.length fc) F
  chunks : GC B T w (.slice ca n cc) D P n
  wlt : ∀ b, (Value.slice wa W.length wc).ownBlock = some b → b < T
theorem GF.kept {S : Nat → Prop} {B T : Nat} {w w' : World} {wa : Option Addr} {wc : Nat} {W : List Wn} {fa : Option Addr} {fc : Nat} {F : List Int} {ca : Option Addr} {cc n : Nat} {D : Nat → Int} {P : Nat → List Int} (h : GF B T w wa wc W fa fc F ca cc n D P) (hk : Kept S w w') (hn : ∀ b, B ≤ b → b < T → ¬ S b) : GF B T w' wa wc W fa fc F ca cc n D P :=
  ⟨ownsRow_kept h.wants hk (fun b hb => hn b (World.ownsRow.lt h.wants b hb).1 (h.wlt b hb)), h.failed.kept hk hn, h.chunks.kept hk hn, h.wlt⟩
theorem GF.below {B T : Nat} {w w' : World} {wa : Option Addr} {wc : Nat} {W : List Wn} {fa : Option Addr} {fc : Nat} {F : List Int} {ca : Option Addr} {cc n : Nat} {D : Nat → Int} {P : Nat → List Int} (h : GF B T w wa wc W fa fc F ca cc n D P) (hk : Below w.heap.size w w') : GF B T w' wa wc W fa fc F ca cc n D P :=
  h.kept (S := fun _ => False) (Kept.of_below hk) (fun _ _ _ => id)
theorem GF.rd {B T : Nat} {w : World} {wa : Option Addr} {wc : Nat} {W : List Wn} {fa : Option Addr} {fc : Nat} {F : List Int} {ca : Option Addr} {cc n : Nat} {D : Nat → Int} {P : Nat → List Int} (h : GF B T w wa wc W fa fc F ca cc n D P) : RdF w wa W fa F ca D P n :=
  ⟨OwnW.rd h.wants, h.failed.own.reads, h.chunks.rd⟩
set_option maxRecDepth 100000 in
set_option maxHeartbeats 1600000 in
theorem toFetch_own (wa : Option Addr) (wc : Nat) (W : List Wn) (fa : Option Addr) (fc : Nat) (F : List Int) (ca : Option Addr) (cc n : Nat) (D : Nat → Int) (P : Nat → List Int) (w : World) (h : RdF w wa W fa F ca D P n) (hW : W.length ≤ 1048576) (hF : F.length ≤ 1048576) (hn : n ≤ 1048576) (hP : ∀ i, i < n → (P i).length ≤ 1048576) :
    Calls Try.prog 15 #[fetV wa W.length wc fa F.length fc ca n cc] w fun e w' => ∃ g1 g2 g3, e = .returned (fetV (some ⟨g1, 0, none⟩) W.length W.length (some ⟨g2, 0, none⟩) F.length F.length (some ⟨g3, 0, none⟩) n n) ∧ GF w.heap.size w'.heap.size w' (some ⟨g1, 0, none⟩) W.length W (some ⟨g2, 0, none⟩) F.length F (some ⟨g3, 0, none⟩) n n D P ∧ Below w.heap.size w w' := by
  have HR := hide h
  have HP := hide hP
  clear h hP
  unfold fetV
  have B0 := hide (below_next (below_next (below_alloc w (.cells #[.slice wa W.length wc, .slice fa F.length fc, .slice ca n cc] 27)) (below_alloc _ (.cells #[.slice none 0 0, .slice none 0 0, .slice none 0 0] 39))) (below_alloc _ (.cells #[.slice none 0 0, .slice none 0 0, .slice none 0 0] 39)))
  have X0 := hide (((Bx3.new w (.slice wa W.length wc) (.slice fa F.length fc) (.slice ca n cc) 27).below (below_alloc _ (.cells #[.slice none 0 0, .slice none 0 0, .slice none 0 0] 39))).below (below_alloc _ (.cells #[.slice none 0 0, .slice none 0 0, .slice none 0 0] 39)))
  go_enter Try.func15, Try.ntmps15
  go_wp2_with fail
  have XR := hide ((Bx3.new (w.alloc (.cells #[.slice wa W.length wc, .slice fa F.length fc, .slice ca n cc] 27)) (.slice none 0 0) (.slice none 0 0) (.slice none 0 0) 39).below (below_alloc _ (.cells #[.slice none 0 0, .slice none 0 0, .slice none 0 0] 39)))
  have XO := hide (Bx3.new ((w.alloc (.cells #[.slice wa W.length wc, .slice fa F.length fc, .slice ca n cc] 27)).alloc (.cells #[.slice none 0 0, .slice none 0 0, .slice none 0 0] 39)) (.slice none 0 0) (.slice none 0 0) (.slice none 0 0) 39)
  have hs : (((w.alloc (.cells #[.slice wa W.length wc, .slice fa F.length fc, .slice ca n cc] 27)).alloc (.cells #[.slice none 0 0, .slice none 0 0, .slice none 0 0] 39)).alloc (.cells #[.slice none 0 0, .slice none 0 0, .slice none 0 0] 39)).heap.size = w.heap.size + 3 := by simp
  have hs1 : (w.alloc (.cells #[.slice wa W.length wc, .slice fa F.length fc, .slice ca n cc] 27)).heap.size = w.heap.size + 1 := by simp
  have hs2 : ((w.alloc (.cells #[.slice wa W.length wc, .slice fa F.length fc, .slice ca n cc] 27)).alloc (.cells #[.slice none 0 0, .slice none 0 0, .slice none 0 0] 39)).heap.size = w.heap.size + 1 + 1 := by simp
  rw [hs1] at XR
  rw [hs2] at XO
  clear hs1 hs2
  generalize ((w.alloc (.cells #[.slice wa W.length wc, .slice fa F.length fc, .slice ca n cc] 27)).alloc (.cells #[.slice none 0 0, .slice none 0 0, .slice none 0 0] 39)).alloc (.cells #[.slice none 0 0, .slice none 0 0, .slice none 0 0] 39) = W0 at *
  refine (toWantS_any wa wc W W0 (HR.out.wants.below B0.out) hW).mono ?_
  rintro e w1 ⟨g1, rfl, hg1, ho1, hb1⟩
  have O1 := hide ho1
  have X01 := hide (X0.out.below hb1)
  have XR1 := hide (XR.out.below hb1)
  have XO1 := hide (XO.out.below hb1)
  have B1 := hide (below_next B0.out hb1)
  have hz1 := hb1.size
  clear ho1 hb1 X0 XR XO B0
  obtain ⟨⟨t0, t1, t2⟩, -, -, -⟩ := X01.out
  obtain ⟨⟨y0, y1, y2⟩, y3, y4, y5⟩ := XO1.out
  have A2 : Hid (Bx3 (w1.setCell ⟨w.heap.size + 1 + 1, 0, none⟩ (.slice (some ⟨g1, 0, none⟩) W.length W.length)) w.heap.size (.slice wa W.length wc) (.slice fa F.length fc) (.slice ca n cc)) := hide (X01.out.kept (Kept.one _ _ _ _) (by omega))
  have A3 : Hid (Bx3 (w1.setCell ⟨w.heap.size + 1 + 1, 0, none⟩ (.slice (some ⟨g1, 0, none⟩) W.length W.length)) (w.heap.size + 1) (.slice none 0 0) (.slice none 0 0) (.slice none 0 0)) := hide (XR1.out.kept (Kept.one _ _ _ _) (by omega))
  have A4 := hide (XO1.out.set0 (.slice (some ⟨g1, 0, none⟩) W.length W.length))
  have A5 : Hid (OwnW W0.heap.size (w1.setCell ⟨w.heap.size + 1 + 1, 0, none⟩ (.slice (some ⟨g1, 0, none⟩) W.length W.length)) (.slice (some ⟨g1, 0, none⟩) W.length W.length) W) := hide (ownsRow_kept O1.out (Kept.one _ _ _ _) (fun b hb e => by have := (World.ownsRow.lt O1.out b hb).1; omega))
  have A6 : Hid (Below w.heap.size w (w1.setCell ⟨w.heap.size + 1 + 1, 0, none⟩ (.slice (some ⟨g1, 0, none⟩) W.length W.length))) := hide (B1.out.setCell (by show w.heap.size ≤ w.heap.size + 1 + 1; omega) _)
  have A7 : (w1.setCell ⟨w.heap.size + 1 + 1, 0, none⟩ (.slice (some ⟨g1, 0, none⟩) W.length W.length)).heap.size = w1.heap.size := by simp [World.setCell]
  obtain ⟨⟨q0, q1, q2⟩, -, -, -⟩ := A2.out
  go_wp2_with fail
  clear t0 t1 t2 y0 y1 y2 y3 y4 y5 q0 q1 q2 O1 X01 XR1 XO1 B1
  generalize w1.setCell ⟨w.heap.size + 1 + 1, 0, none⟩ (.slice (some ⟨g1, 0, none⟩) W.length W.length) = W1 at *
  refine (toInt64S_any fa fc F W1 (HR.out.failed.below A6.out) hF).mono ?_
  rintro e w2 ⟨rfl, ho2, hb2⟩
  have O2 : Hid (w2.ownsRow W0.heap.size 2 1 (.slice (some ⟨W1.heap.size, 0, none⟩) F.length F.length) F.length (F.map (Value.int .i64))) := hide (ownsRow_of_row ho2 (by have := A7; omega) (by unfold maxLen; omega))
  have hg2 : W0.heap.size ≤ W1.heap.size := by have := A7; omega
  obtain ⟨g2, hG2⟩ : ∃ g2, g2 = W1.heap.size := ⟨_, rfl⟩
  rw [← hG2] at O2 ⊢
  have hg2' : W0.heap.size ≤ g2 := by omega
  clear hG2
  have X02 := hide (A2.out.below hb2)
  have XR2 := hide (A3.out.below hb2)
  have XO2 := hide (A4.out.below hb2)
  have OW2 : Hid (OwnW W0.heap.size w2 (.slice (some ⟨g1, 0, none⟩) W.length W.length) W) := hide (ownsRow_below A5.out hb2)
  have B2 := hide (below_next A6.out hb2)
  have hz2 := hb2.size
  clear ho2 hb2 A2 A3 A4 A5 A6
  obtain ⟨⟨y0, y1, y2⟩, y3, y4, y5⟩ := XO2.out
  have D2 : Hid (Bx3 (w2.setCell ⟨w.heap.size + 1 + 1, 1, none⟩ (.slice (some ⟨g2, 0, none⟩) F.length F.length)) w.heap.size (.slice wa W.length wc) (.slice fa F.length fc) (.slice ca n cc)) := hide (X02.out.kept (Kept.one _ _ _ _) (by omega))
  have D3 : Hid (Bx3 (w2.setCell ⟨w.heap.size + 1 + 1, 1, none⟩ (.slice (some ⟨g2, 0, none⟩) F.length F.length)) (w.heap.size + 1) (.slice none 0 0) (.slice none 0 0) (.slice none 0 0)) := hide (XR2.out.kept (Kept.one _ _ _ _) (by omega))
  have D4 := hide (XO2.out.set1 (.slice (some ⟨g2, 0, none⟩) F.length F.length))
  have D5 : Hid (OwnW W0.heap.size (w2.setCell ⟨w.heap.size + 1 + 1, 1, none⟩ (.slice (some ⟨g2, 0, none⟩) F.length F.length)) (.slice (some ⟨g1, 0, none⟩) W.length W.length) W) := hide (ownsRow_kept OW2.out (Kept.one _ _ _ _) (fun b hb e => by have := (World.ownsRow.lt OW2.out b hb).1; omega))
  have D5b : Hid ((w2.setCell ⟨w.heap.size + 1 + 1, 1, none⟩ (.slice (some ⟨g2, 0, none⟩) F.length F.length)).ownsRow W0.heap.size 2 1 (.slice (some ⟨g2, 0, none⟩) F.length F.length) F.length (F.map (Value.int .i64))) := hide (ownsRow_kept O2.out (Kept.one _ _ _ _) (fun b hb e => by have := (O2.out.lt b hb).1; omega))
  have D6 : Hid (Below w.heap.size w (w2.setCell ⟨w.heap.size + 1 + 1, 1, none⟩ (.slice (some ⟨g2, 0, none⟩) F.length F.length))) := hide (B2.out.setCell (by show w.heap.size ≤ w.heap.size + 1 + 1; omega) _)
  have D7 : (w2.setCell ⟨w.heap.size + 1 + 1, 1, none⟩ (.slice (some ⟨g2, 0, none⟩) F.length F.length)).heap.size = w2.heap.size := by simp [World.setCell]
  obtain ⟨⟨q0, q1, q2⟩, -, -, -⟩ := D2.out
  go_wp2_with fail
  clear y0 y1 y2 y3 y4 y5 q0 q1 q2 O2 X02 XR2 XO2 OW2 B2
  generalize w2.setCell ⟨w.heap.size + 1 + 1, 1, none⟩ (.slice (some ⟨g2, 0, none⟩) F.length F.length) = W2 at *
  refine (toChunkS_any ca cc n D P W2 (HR.out.chunks.below D6.out) hn HP.out).mono ?_
  rintro e w3 ⟨g3, rfl, hg3, ho3, hb3⟩
  have O3 := hide ho3
  have XR3 := hide (D3.out.below hb3)
  have XO3 := hide (D4.out.below hb3)
  have OW3 : Hid (OwnW W0.heap.size w3 (.slice (some ⟨g1, 0, none⟩) W.length W.length) W) := hide (ownsRow_below D5.out hb3)
  have OF3 := hide (ownsRow_below D5b.out hb3)
  have B3 := hide (below_next D6.out hb3)
  have hz3 := hb3.size
  clear ho3 hb3 D2 D3 D4 D5 D5b D6
  obtain ⟨⟨y0, y1, y2⟩, y3, y4, y5⟩ := XO3.out
  have E3 : Hid (Bx3 (w3.setCell ⟨w.heap.size + 1 + 1, 2, none⟩ (.slice (some ⟨g3, 0, none⟩) n n)) (w.heap.size + 1) (.slice none 0 0) (.slice none 0 0) (.slice none 0 0)) := hide (XR3.out.kept (Kept.one _ _ _ _) (by omega))
  have E4 : Hid (Bx3 (w3.setCell ⟨w.heap.size + 1 + 1, 2, none⟩ (.slice (some ⟨g3, 0, none⟩) n n)) (w.heap.size + 1 + 1) (.slice (some ⟨g1, 0, none⟩) W.length W.length) (.slice (some ⟨g2, 0, none⟩) F.length F.length) (.slice (some ⟨g3, 0, none⟩) n n)) := hide (by
    obtain ⟨⟨m0, m1, m2⟩, f0, f1, f2⟩ := XO3.out
    refine ⟨⟨?_, ?_, cell_set_same m2⟩, ?_, ?_, ?_⟩
    · rw [cell_set_other (by simp)]; exact m0
    · rw [cell_set_other (by simp)]; exact m1
    · rw [World.frozen?_setCell]; exact f0
    · rw [World.frozen?_setCell]; exact f1
    · rw [World.frozen?_setCell]; exact f2)
  obtain ⟨⟨r0, r1, r2⟩, r3, r4, r5⟩ := E3.out
  obtain ⟨⟨s0, s1, s2⟩, s3, s4, s5⟩ := E4.out
  go_wp2_with fail
  have hk : Kept (fun b => b = w.heap.size + 1 ∨ b = w.heap.size + 1 + 1) w3 (((((w3.setCell ⟨w.heap.size + 1 + 1, 2, none⟩ (.slice (some ⟨g3, 0, none⟩) n n))).setCell ⟨w.heap.size + 1, 0, none⟩ (.slice (some ⟨g1, 0, none⟩) W.length W.length)).setCell ⟨w.heap.size + 1, 1, none⟩ (.slice (some ⟨g2, 0, none⟩) F.length F.length)).setCell ⟨w.heap.size + 1, 2, none⟩ (.slice (some ⟨g3, 0, none⟩) n n)) :=
    Kept.setCell (p := ⟨w.heap.size + 1, 2, none⟩) (Kept.setCell (p := ⟨w.heap.size + 1, 1, none⟩) (Kept.setCell (p := ⟨w.heap.size + 1, 0, none⟩) (Kept.setCell (p := ⟨w.heap.size + 1 + 1, 2, none⟩) (Kept.refl _ _) (fun _ => .inr rfl) _) (fun _ => .inl rfl) _) (fun _ => .inl rfl) _) (fun _ => .inl rfl) _
  refine bodyPost_ret (v := .agg #[.slice (some ⟨g1, 0, none⟩) W.length W.length, .slice (some ⟨g2, 0, none⟩) F.length F.length, .slice (some ⟨g3, 0, none⟩) n n]) (by simp [results, Try.results15, go_sem, r0, r1, r2]) rfl ⟨g1, g2, g3, rfl, ?_, B3.out.trans (hk.below B3.out.size (fun k hk hS => by omega))⟩
  have hzz : (((((w3.setCell ⟨w.heap.size + 1 + 1, 2, none⟩ (.slice (some ⟨g3, 0, none⟩) n n))).setCell ⟨w.heap.size + 1, 0, none⟩ (.slice (some ⟨g1, 0, none⟩) W.length W.length)).setCell ⟨w.heap.size + 1, 1, none⟩ (.slice (some ⟨g2, 0, none⟩) F.length F.length)).setCell ⟨w.heap.size + 1, 2, none⟩ (.slice (some ⟨g3, 0, none⟩) n n)).heap.size = w3.heap.size := by simp [World.setCell]
  have hWk := ownsRow_kept OW3.out hk (fun b hb hS => by have := (World.ownsRow.lt OW3.out b hb).1; omega)
  have hFk := ownsRow_kept OF3.out hk (fun b hb hS => by have := (OF3.out.lt b hb).1; omega)
  refine ⟨ownsRow_mono hWk (by omega), ⟨ownsRow_mono hFk (by omega), fun b hb => (hFk.lt b hb).2⟩, ?_, fun b hb => (hWk.lt b hb).2⟩
  rw [hzz]
  exact (O3.out.kept hk (fun b h1 h2 hS => by omega)).mono (by omega)
end Go.Proofs.Ytfamojijgjmcmaa

