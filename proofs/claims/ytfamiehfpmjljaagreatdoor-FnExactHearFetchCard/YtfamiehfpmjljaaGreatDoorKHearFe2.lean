/-
  Texts put together: Chunks ChunksRd Digest Fault FaultC Store.
-/
import Derived.Test.YtfamiehfpmjljaaGreatDoorKHearFe1
import Derived.Maps.OwnSet
namespace Go.Proofs.YtfamiehfpmjljaaGreatDoor
open Go.RowKit
set_option linter.unusedVariables false

def RdC (w : World) (a : Option Addr) (D : Nat → Int) (P : Nat → List Int) (n : Nat) : Prop :=
  0 < n → ∃ (b off : Nat) (A : Nat → Option Addr) (C : Nat → Nat), a = some ⟨b, off, none⟩ ∧ b < w.heap.size ∧ ∀ i, i < n → w.cell? ⟨b, off + i * 2, none⟩ = some (.int .i64 (D i)) ∧ w.cell? ⟨b, off + i * 2 + 1, none⟩ = some (.slice (A i) (P i).length (C i)) ∧ Reads .u8 w (A i) (P i)

theorem RdC.below {w w' : World} {a : Option Addr} {D : Nat → Int} {P : Nat → List Int} {n : Nat} (h : RdC w a D P n) (hk : Below w.heap.size w w') : RdC w' a D P n := by
  intro hn
  obtain ⟨b, off, A, C, e, hb, hc⟩ := h hn
  exact ⟨b, off, A, C, e, Nat.lt_of_lt_of_le hb hk.size, fun i hi => ⟨(hk.cell (p := ⟨b, off + i * 2, none⟩) hb).trans (hc i hi).1, (hk.cell (p := ⟨b, off + i * 2 + 1, none⟩) hb).trans (hc i hi).2.1, (hc i hi).2.2.below hk⟩⟩

def chCells (D : Nat → Int) (P : Nat → List Int) (A : Nat → Option Addr) (C : Nat → Nat) (i : Nat) : List Value := [.int .i64 (D i), .slice (A i) (P i).length (C i)]

def GC (B T : Nat) (w : World) (v : Value) (D : Nat → Int) (P : Nat → List Int) (n : Nat) : Prop :=
  ∃ (A : Nat → Option Addr) (C : Nat → Nat), w.ownsRow B 70 2 v n (flat n (chCells D P A C)) ∧
    (∀ i, i < n → w.ownsRow B 5 1 (.slice (A i) (P i).length (C i)) (P i).length ((P i).map (Value.int .u8))) ∧
    (∀ i i' g, i < n → i' < n → (A i).map Addr.block = some g → (A i').map Addr.block = some g → i = i') ∧
    (∀ i g, i < n → (A i).map Addr.block = some g → g < T) ∧ ∀ b, v.ownBlock = some b → b < T

theorem Tryz.infoCh : (Tryz.prog.info? 70).map (fun i => (i.zero, i.size, i.bytes)) = some (some (.agg #[.int .i64 0, .slice none 0 0]), 2, 32) := by kernel_rfl

set_option maxHeartbeats 400000 in
theorem toChunk_any (d : Int) (a : Option Addr) (c : Nat) (zs : List Int) (w : World) (h : Reads .u8 w a zs) (hl : zs.length ≤ 1048576) :
    Calls Tryz.prog 110 #[.agg #[.int .i64 d, .slice a zs.length c]] w fun e w' => ∃ g, e = .returned (.agg #[.int .i64 d, .slice (some ⟨g, 0, none⟩) zs.length zs.length]) ∧ w.heap.size ≤ g ∧ w'.ownsRow w.heap.size 5 1 (.slice (some ⟨g, 0, none⟩) zs.length zs.length) zs.length (zs.map (Value.int .u8)) ∧ Below w.heap.size w w' := by
  have HR := hide h
  clear h
  go_enter Tryz.func110, Tryz.ntmps110
  go_wp2_with fail
  have X1 := hide ((Box.new (w.alloc (.cells #[.int .i64 d, .slice a zs.length c] 143)) (.int .i64 0) (.slice none 0 0) 70).below (below_alloc _ (.cells #[.int .i64 d, .slice none 0 0] 70)))
  have X2 := hide (Box.new ((w.alloc (.cells #[.int .i64 d, .slice a zs.length c] 143)).alloc (.cells #[.int .i64 0, .slice none 0 0] 70)) (.int .i64 d) (.slice none 0 0) 70)
  have B0 := hide (below_next (below_next (below_alloc w (.cells #[.int .i64 d, .slice a zs.length c] 143)) (below_alloc _ (.cells #[.int .i64 0, .slice none 0 0] 70))) (below_alloc _ (.cells #[.int .i64 d, .slice none 0 0] 70)))
  have hsz : (((w.alloc (.cells #[.int .i64 d, .slice a zs.length c] 143)).alloc (.cells #[.int .i64 0, .slice none 0 0] 70)).alloc (.cells #[.int .i64 d, .slice none 0 0] 70)).heap.size = w.heap.size + 3 := by simp
  have h1 : (w.alloc (.cells #[.int .i64 d, .slice a zs.length c] 143)).heap.size = w.heap.size + 1 := by simp
  have h2 : ((w.alloc (.cells #[.int .i64 d, .slice a zs.length c] 143)).alloc (.cells #[.int .i64 0, .slice none 0 0] 70)).heap.size = w.heap.size + 1 + 1 := by simp
  rw [h1] at X1
  rw [h2] at X2
  clear h1 h2
  generalize ((w.alloc (.cells #[.int .i64 d, .slice a zs.length c] 143)).alloc (.cells #[.int .i64 0, .slice none 0 0] 70)).alloc (.cells #[.int .i64 d, .slice none 0 0] 70) = W at *
  have HZ := hide hsz
  clear hsz
  refine (toByteS_own a c zs _ (HR.out.below B0.out) hl).mono ?_
  rintro e w1 ⟨g, rfl, hg, ho, b1⟩
  obtain ⟨⟨q0, q1⟩, q2, q3⟩ := X1.out.below b1
  obtain ⟨⟨r0, r1⟩, r2, r3⟩ := X2.out.below b1
  have hg2 : w.heap.size + 3 ≤ g := by have := HZ.out; omega
  have HO := hide ho
  have HB := hide (below_next B0.out b1)
  clear ho b1 X1 X2 B0 hg
  go_wp2_with fail
  have hk : Kept (fun b => b = w.heap.size + 1 ∨ b = w.heap.size + 1 + 1) w1 (((w1.setCell ⟨w.heap.size + 1 + 1, 1, none⟩ (.slice (some ⟨g, 0, none⟩) zs.length zs.length)).setCell ⟨w.heap.size + 1, 0, none⟩ (.int .i64 d)).setCell ⟨w.heap.size + 1, 1, none⟩ (.slice (some ⟨g, 0, none⟩) zs.length zs.length)) :=
    Kept.setCell (p := ⟨w.heap.size + 1, 1, none⟩) (Kept.setCell (p := ⟨w.heap.size + 1, 0, none⟩) (Kept.setCell (p := ⟨w.heap.size + 1 + 1, 1, none⟩) (Kept.refl _ _) (fun _ => .inr rfl) _) (fun _ => .inl rfl) _) (fun _ => .inl rfl) _
  refine bodyPost_ret (v := .agg #[.int .i64 d, .slice (some ⟨g, 0, none⟩) zs.length zs.length]) (by simp [results, Tryz.results110, go_sem, q0, q1]) rfl ⟨g, rfl, by omega, ?_, HB.out.trans (hk.below HB.out.size (fun k hk hS => by omega))⟩
  exact ownsRow_mono (ownsRow_kept HO.out hk (fun b hb hS => by simp only [Value.ownBlock, Option.some.injEq] at hb; omega)) (by have := HZ.out; omega)

set_option maxHeartbeats 400000 in
theorem eqChunk_same (d : Int) (a b : Option Addr) (ca cb : Nat) (zs : List Int) (w : World) (ha : Reads .u8 w a zs) (hb : Reads .u8 w b zs) (hl : zs.length ≤ 1048576) :
    Calls Tryz.prog 112 #[.agg #[.int .i64 d, .slice a zs.length ca], .agg #[.int .i64 d, .slice b zs.length cb]] w fun e w' => e = .returned (.bool true) ∧ Below w.heap.size w w' := by
  have HA := hide ha
  have HB := hide hb
  clear ha hb
  have B1 := hide (below_next (below_alloc w (.cells #[.int .i64 d, .slice a zs.length ca] 70)) (below_alloc _ (.cells #[.int .i64 d, .slice b zs.length cb] 70)))
  go_enter Tryz.func112, Tryz.ntmps112
  go_wp2_with fail
  refine (eqByteS_b a b ca cb zs _ (HA.out.below B1.out) (HB.out.below B1.out) hl).mono ?_
  rintro e w1 ⟨rfl, b1⟩
  have B2 := hide (below_next B1.out b1)
  clear b1 B1
  go_wp2_with fail
  go_ret
  exact ⟨rfl, B2.out⟩

set_option maxHeartbeats 800000 in
theorem eqChunkS_same (a b : Option Addr) (ca cb n : Nat) (D : Nat → Int) (P : Nat → List Int) (w : World) (ha : RdC w a D P n) (hb : RdC w b D P n) (hl : n ≤ 1048576) (hP : ∀ i, i < n → (P i).length ≤ 1048576) :
    Calls Tryz.prog 79 #[.slice a n ca, .slice b n cb] w fun e w' => e = .returned (.bool true) ∧ Below w.heap.size w w' := by
  have hne : ((n : Int) != (n : Int)) = false := by simp
  have HA := hide ha
  have HB := hide hb
  have HP := hide hP
  clear ha hb hP
  go_enter Tryz.func79, Tryz.ntmps79
  go_wp2
  go_loopw [5] (fun i wr => ∃ k : Nat, k ≤ n ∧ i = .int .i64 k ∧ Below w.heap.size w wr) (fun i _ => n - (intOf i).toNat)
  case atStart => exact ⟨0, Nat.zero_le _, rfl, Below.refl _ _⟩
  case round =>
    obtain ⟨k, hk, rfl, hbel⟩ := hrel
    have HW := hide hbel
    clear hbel
    by_cases hlt : k < n
    · obtain ⟨b1, o1, A1, C1, rfl, hb1, hc1⟩ := (HA.out.below HW.out) (by omega)
      obtain ⟨b2, o2, A2, C2, rfl, hb2, hc2⟩ := (HB.out.below HW.out) (by omega)
      obtain ⟨c1, e1, r1⟩ := hc1 k hlt
      obtain ⟨c2, e2, r2⟩ := hc2 k hlt
      have hp := HP.out k hlt
      generalize A1 k = a1 at e1 r1
      generalize A2 k = a2 at e2 r2
      generalize C1 k = d1 at e1
      generalize C2 k = d2 at e2
      generalize P k = xs at e1 r1 e2 r2 hp
      generalize D k = dd at c1 c2
      have R1 := hide r1
      have R2 := hide r2
      have f1 : ∀ u : InW (fun x => Below wr.heap.size wr x), u.val.cell? ⟨b1, o1 + k * 2, none⟩ = some (.int .i64 dd) := fun u => (u.ok.cell (p := ⟨b1, o1 + k * 2, none⟩) hb1).trans c1
      have f2 : ∀ u : InW (fun x => Below wr.heap.size wr x), u.val.cell? ⟨b1, o1 + k * 2 + 1, none⟩ = some (.slice a1 xs.length d1) := fun u => (u.ok.cell (p := ⟨b1, o1 + k * 2 + 1, none⟩) hb1).trans e1
      have f3 : ∀ u : InW (fun x => Below wr.heap.size wr x), u.val.cell? ⟨b2, o2 + k * 2, none⟩ = some (.int .i64 dd) := fun u => (u.ok.cell (p := ⟨b2, o2 + k * 2, none⟩) hb2).trans c2
      have f4 : ∀ u : InW (fun x => Below wr.heap.size wr x), u.val.cell? ⟨b2, o2 + k * 2 + 1, none⟩ = some (.slice a2 xs.length d2) := fun u => (u.ok.cell (p := ⟨b2, o2 + k * 2 + 1, none⟩) hb2).trans e2
      have hne2 : Nonempty (InW (fun x => Below wr.heap.size wr x)) := ⟨⟨wr, Below.refl _ _⟩⟩
      clear hc1 hc2 r1 r2 c1 c2 e1 e2
      go_wp2
      refine wp_region_inv (Inv := fun x => Below wr.heap.size wr x) (by kernel_rfl) (by kernel_rfl) (Below.refl _ _).drew ?_
      repeat (first | go_big_quiet_step ((go_at_call 112; exact calls_inv ((eqChunk_same _ _ _ _ _ xs _ (R1.out.below (InW.ok _)) (R2.out.below (InW.ok _)) hp).mono (fun e w' ⟨he, hb⟩ => ⟨he, below_next (InW.ok _) hb⟩)))) | quiet_step (fail))
      refine wpQuiet_nil ?_
      intro _ hw'
      obtain ⟨u, hw''⟩ := hw'
      subst hw''
      have B7 := hide (below_next HW.out u.ok)
      clear f1 f2 f3 f4 R1 R2
      go_wp2
      go_roundw
      case rel => exact ⟨k + 1, by omega, by go_num, B7.out⟩
      case measure => simp [intOf]; omega
    · go_wp2
      go_ret
      exact ⟨rfl, HW.out⟩

set_option maxHeartbeats 400000 in
theorem szByteS_fits (a : Option Addr) (n c : Nat) (left : Int) (w : World) (h0 : left ≤ 1048576) (hn : (n : Int) ≤ left) :
    Calls Tryz.prog 138 #[.slice a n c, .int .i64 left] w fun e w' => e = .returned (.int .i64 (left - n)) ∧ w' = w := by
  have hb : ¬ (left - (n : Int)) < 0 := by omega
  go_enter Tryz.func138, Tryz.ntmps138
  go_wp2
  go_ret
  exact ⟨rfl, rfl⟩
set_option maxHeartbeats 400000 in
theorem szByteS_not (a : Option Addr) (n c : Nat) (left : Int) (w : World) (h0 : 0 ≤ left) (hl : left ≤ 1048576) (hm : (n : Int) ≤ 9223372036854775807) (hn : left < (n : Int)) :
    Calls Tryz.prog 138 #[.slice a n c, .int .i64 left] w fun e w' => e = .returned (.int .i64 (-1)) ∧ w' = w := by
  have hb : (left - (n : Int)) < 0 := by omega
  go_enter Tryz.func138, Tryz.ntmps138
  go_wp2
  go_ret
  exact ⟨rfl, rfl⟩

set_option maxHeartbeats 400000 in
theorem szChunk_fits (d : Int) (a : Option Addr) (n c : Nat) (left : Int) (w : World) (h0 : left ≤ 1048576) (hn : (n : Int) ≤ left) :
    Calls Tryz.prog 107 #[.agg #[.int .i64 d, .slice a n c], .int .i64 left] w fun e w' => e = .returned (.int .i64 (left - n)) ∧ Below w.heap.size w w' := by
  have hb : ¬ (left - (n : Int)) < 0 := by omega
  go_enter Tryz.func107, Tryz.ntmps107
  go_wp2_with fail
  refine (szByteS_fits a n c left _ h0 hn).mono ?_
  rintro e w1 ⟨rfl, rfl⟩
  go_wp2_with fail
  go_ret
  exact ⟨rfl, below_alloc _ _⟩
set_option maxHeartbeats 400000 in
theorem szChunk_not (d : Int) (a : Option Addr) (n c : Nat) (left : Int) (w : World) (h0 : 0 ≤ left) (hl : left ≤ 1048576) (hm : (n : Int) ≤ 9223372036854775807) (hn : left < (n : Int)) :
    Calls Tryz.prog 107 #[.agg #[.int .i64 d, .slice a n c], .int .i64 left] w fun e w' => e = .returned (.int .i64 (-1)) ∧ Below w.heap.size w w' := by
  go_enter Tryz.func107, Tryz.ntmps107
  go_wp2_with fail
  refine (szByteS_not a n c left _ h0 hl hm hn).mono ?_
  rintro e w1 ⟨rfl, rfl⟩
  go_wp2_with fail
  go_ret
  exact ⟨rfl, below_alloc _ _⟩

set_option maxHeartbeats 800000 in
theorem szChunkS_fits (a : Option Addr) (c n : Nat) (D : Nat → Int) (P : Nat → List Int) (left : Int) (w : World) (h : RdC w a D P n) (h0 : left ≤ 1048576) (hn : (n : Int) + (ahead P n : Int) ≤ left) :
    Calls Tryz.prog 72 #[.slice a n c, .int .i64 left] w fun e w' => e = .returned (.int .i64 (left - n - ahead P n)) ∧ Below w.heap.size w w' := by
  have hb : ¬ (left - (n : Int)) < 0 := by omega
  have HA := hide h
  clear h
  go_enter Tryz.func72, Tryz.ntmps72
  go_wp2
  go_loopw [1, 5] (fun q i wr => ∃ k : Nat, k ≤ n ∧ i = .int .i64 k ∧ q = .int .i64 (left - n - ahead P k) ∧ Below w.heap.size w wr) (fun _ i _ => n - (intOf i).toNat)
  case atStart => exact ⟨0, Nat.zero_le _, rfl, by simp [ahead], Below.refl _ _⟩
  case round =>
    obtain ⟨k, hk, rfl, rfl, hbel⟩ := hrel
    have HW := hide hbel
    clear hbel
    by_cases hlt : k < n
    · obtain ⟨b1, o1, A1, C1, rfl, hb1, hc1⟩ := (HA.out.below HW.out) (by omega)
      obtain ⟨c1, e1, r1⟩ := hc1 k hlt
      have hle := ahead_le P (i := k + 1) (j := n) (by omega)
      simp only [ahead] at hle
      have hs : ahead P (k + 1) = ahead P k + (P k).length := rfl
      have HSu := hide hs
      clear hs
      generalize A1 k = a1 at e1 r1
      generalize C1 k = d1 at e1
      generalize (P k).length = pl at *
      generalize D k = dd at c1
      have hb2 : ¬ (left - (n : Int) - (ahead P k : Int) - (pl : Int)) < 0 := by omega
      clear hc1 r1
      go_wp2_with (go_at_call 107; refine (szChunk_fits dd a1 pl d1 _ _ (by omega) (by omega)).mono ?_; rintro e w1 ⟨rfl, b1'⟩; have HB1 := hide b1'; clear b1')
      go_roundw
      case rel => exact ⟨k + 1, by omega, by go_num, by rw [HSu.out]; go_num, below_next HW.out HB1.out⟩
      case measure => simp [intOf]; omega
    · have hke : k = n := by omega
      subst hke
      go_wp2
      go_ret
      exact ⟨rfl, HW.out⟩

set_option maxHeartbeats 800000 in
theorem szChunkS_not (a : Option Addr) (c n : Nat) (D : Nat → Int) (P : Nat → List Int) (left : Int) (w : World) (h : RdC w a D P n) (h00 : 0 ≤ left) (h0 : left ≤ 1048576) (hm : (n : Int) ≤ 9223372036854775807) (hmP : ∀ i, i < n → ((P i).length : Int) ≤ 9223372036854775807) (hn : left < (n : Int) + (ahead P n : Int)) :
    Calls Tryz.prog 72 #[.slice a n c, .int .i64 left] w fun e w' => e = .returned (.int .i64 (-1)) ∧ Below w.heap.size w w' := by
  by_cases hsm : left < (n : Int)
  · have hb : (left - (n : Int)) < 0 := by omega
    clear h
    go_enter Tryz.func72, Tryz.ntmps72
    go_wp2
    go_ret
    exact ⟨rfl, Below.refl _ _⟩
  · have hb : ¬ (left - (n : Int)) < 0 := by omega
    have HA := hide h
    have HM := hide hmP
    clear h hmP
    go_enter Tryz.func72, Tryz.ntmps72
    go_wp2
    go_loopw [1, 5] (fun q i wr => ∃ k : Nat, k ≤ n ∧ i = .int .i64 k ∧ q = .int .i64 (left - n - ahead P k) ∧ (n : Int) + (ahead P k : Int) ≤ left ∧ Below w.heap.size w wr) (fun _ i _ => n - (intOf i).toNat)
    case atStart => exact ⟨0, Nat.zero_le _, rfl, by simp [ahead], by simp [ahead]; omega, Below.refl _ _⟩
    case round =>
      obtain ⟨k, hk, rfl, rfl, hfit, hbel⟩ := hrel
      have HW := hide hbel
      clear hbel
      have hlt : k < n := by
        rcases Nat.lt_or_ge k n with h1 | h1
        · exact h1
        · have : k = n := by omega
          subst this
          omega
      obtain ⟨b1, o1, A1, C1, rfl, hb1, hc1⟩ := (HA.out.below HW.out) (by omega)
      obtain ⟨c1, e1, r1⟩ := hc1 k hlt
      have hs : ahead P (k + 1) = ahead P k + (P k).length := rfl
      have hmk := HM.out k hlt
      have HSu := hide hs
      clear hs
      generalize A1 k = a1 at e1 r1
      generalize C1 k = d1 at e1
      generalize (P k).length = pl at *
      generalize D k = dd at c1
      clear hc1 r1
      by_cases hf : (n : Int) + (ahead P k : Int) + (pl : Int) ≤ left
      · have hb2 : ¬ (left - (n : Int) - (ahead P k : Int) - (pl : Int)) < 0 := by omega
        go_wp2_with (go_at_call 107; refine (szChunk_fits dd a1 pl d1 _ _ (by omega) (by omega)).mono ?_; rintro e w1 ⟨rfl, b1'⟩; have HB1 := hide b1'; clear b1')
        go_roundw
        case rel => exact ⟨k + 1, by omega, by go_num, by rw [HSu.out]; go_num, by rw [HSu.out]; omega, below_next HW.out HB1.out⟩
        case measure => simp [intOf]; omega
      · go_wp2_with (go_at_call 107; refine (szChunk_not dd a1 pl d1 _ _ (by omega) (by omega) (by omega) (by omega)).mono ?_; rintro e w1 ⟨rfl, b1'⟩; have HB1 := hide b1'; clear b1')
        go_ret
        exact ⟨rfl, below_next HW.out HB1.out⟩

def laid (j : Nat) (D : Nat → Int) (P : Nat → List Int) (A : Nat → Nat) (i : Nat) : List Value :=
  if i < j then [.int .i64 (D i), .slice (some ⟨A i, 0, none⟩) (P i).length (P i).length] else [.int .i64 0, .slice none 0 0]
theorem laid_length (j : Nat) (D : Nat → Int) (P : Nat → List Int) (A : Nat → Nat) (i : Nat) : (laid j D P A i).length = 2 := by
  unfold laid; split <;> rfl
theorem laid_zero (n : Nat) (D : Nat → Int) (P : Nat → List Int) (A : Nat → Nat) : (madeCells #[Value.int .i64 0, .slice none 0 0] (n * 2)).toList = flat n (laid 0 D P A) := by
  have hl := flat_length (n := n) (k := 2) (F := laid 0 D P A) (fun i _ => laid_length _ _ _ _ _)
  apply List.ext_getElem?
  intro p
  by_cases hp : p < n * 2
  · have e : p = p / 2 * 2 + p % 2 := by omega
    have h1 : p / 2 < n := by omega
    have h2 : p % 2 < 2 := by omega
    rw [e, flat_get (fun i _ => laid_length _ _ _ _ _) _ _ h1 h2]
    rw [← e]
    have hm : p % 2 = 0 ∨ p % 2 = 1 := by omega
    rcases hm with hm | hm <;> simp [madeCells, hp, hm, laid]
  · rw [List.getElem?_eq_none (by simp [madeCells]; omega), List.getElem?_eq_none (by omega)]

theorem laid_step {n k : Nat} {D : Nat → Int} {P : Nat → List Int} {A : Nat → Nat} {g : Nat} (hk : k < n) :
    ((flat n (laid k D P A)).set (k * 2) (.int .i64 (D k))).set (k * 2 + 1) (.slice (some ⟨g, 0, none⟩) (P k).length (P k).length) = flat n (laid (k + 1) D P (fun i => if i = k then g else A i)) := by
  have e := flat_set (n := n) (k := 2) (F := laid k D P A) (fun i _ => laid_length _ _ _ _ _) k 0 hk (by decide) (.int .i64 (D k))
  rw [Nat.add_zero] at e
  rw [e, flat_set (k := 2) (fun i _ => by by_cases h : i = k <;> simp [h, laid_length]) k 1 hk (by decide)]
  apply flat_congr
  intro i hi
  by_cases h : i = k
  · subst h
    simp [laid]
  · by_cases h2 : i < k
    · have h3 : i < k + 1 := by omega
      simp [h, laid, h2, h3]
    · have h3 : ¬ i < k + 1 := by omega
      simp [h, laid, h2, h3]

def ToC (B : Nat) (w : World) (v : Value) (D : Nat → Int) (P : Nat → List Int) (n k : Nat) : Prop :=
  ∃ A : Nat → Nat, w.ownsRow B 70 2 v n (flat n (laid k D P A)) ∧
    (∀ i, i < k → w.ownsRow B 5 1 (.slice (some ⟨A i, 0, none⟩) (P i).length (P i).length) (P i).length ((P i).map (Value.int .u8))) ∧
    ∀ i i', i < k → i' < k → A i = A i' → i = i'

theorem ToC.step {B : Nat} {w w1 : World} {G n k g : Nat} {D : Nat → Int} {P : Nat → List Int} (h : ToC B w (.slice (some ⟨G, 0, none⟩) n n) D P n k) (hk : k < n) (hB : B ≤ w.heap.size) (hbel : Below w.heap.size w w1)
    (hown : w1.ownsRow w.heap.size 5 1 (.slice (some ⟨g, 0, none⟩) (P k).length (P k).length) (P k).length ((P k).map (Value.int .u8))) (hg : w.heap.size ≤ g) :
    ToC B ((w1.setCell ⟨G, k * 2, none⟩ (.int .i64 (D k))).setCell ⟨G, k * 2 + 1, none⟩ (.slice (some ⟨g, 0, none⟩) (P k).length (P k).length)) (.slice (some ⟨G, 0, none⟩) n n) D P n (k + 1) := by
  obtain ⟨A, h1, h2, h3⟩ := h
  have hA : ∀ i, i < k → A i < w.heap.size := fun i hi => ((h2 i hi).lt (A i) rfl).2
  have k1 := ownsRow_below h1 hbel
  have hkp : Kept (fun b => b = G) w1 ((w1.setCell ⟨G, k * 2, none⟩ (.int .i64 (D k))).setCell ⟨G, k * 2 + 1, none⟩ (.slice (some ⟨g, 0, none⟩) (P k).length (P k).length)) := Kept.two _ _ _ _ _ _
  refine ⟨fun i => if i = k then g else A i, ?_, ?_, ?_⟩
  · have := ((k1.stored (k * 2) (.int .i64 (D k))).1.stored (k * 2 + 1) (.slice (some ⟨g, 0, none⟩) (P k).length (P k).length)).1
    rwa [laid_step hk] at this
  · intro i hi
    by_cases e : i = k
    · subst e
      simp only [if_true]
      exact ownsRow_kept (ownsRow_mono hown hB) hkp (fun b hb hS => ownsRow_apart k1 hown (by decide) (by subst hS; rfl) hb)
    · simp only [if_neg e]
      have k2 := ownsRow_below (h2 i (by omega)) hbel
      exact ownsRow_kept k2 hkp (fun b hb hS => ownsRow_apart k1 k2 (by decide) (by subst hS; rfl) hb)
  · intro i i' hi hi' he
    by_cases e : i = k
    · by_cases e' : i' = k
      · omega
      · simp only [if_pos e, if_neg e'] at he
        have := hA i' (by omega)
        omega
    · by_cases e' : i' = k
      · simp only [if_neg e, if_pos e'] at he
        have := hA i (by omega)
        omega
      · simp only [if_neg e, if_neg e'] at he
        exact h3 i i' (by omega) (by omega) he

theorem ToC.gc {B : Nat} {w : World} {v : Value} {D : Nat → Int} {P : Nat → List Int} {n : Nat} (h : ToC B w v D P n n) : GC B w.heap.size w v D P n := by
  obtain ⟨A, h1, h2, h3⟩ := h
  refine ⟨fun i => some ⟨A i, 0, none⟩, fun i => (P i).length, ?_, h2, ?_, ?_, fun b hb => (h1.lt b hb).2⟩
  · have e : flat n (chCells D P (fun i => some ⟨A i, 0, none⟩) (fun i => (P i).length)) = flat n (laid n D P A) := flat_congr (fun i hi => by simp [laid, chCells, hi])
    rw [e]; exact h1
  · intro i i' g hi hi' e1 e2
    simp only [Option.map_some, Option.some.injEq] at e1 e2
    exact h3 i i' hi hi' (by omega)
  · intro i g hi e
    simp only [Option.map_some, Option.some.injEq] at e
    have := ((h2 i hi).lt (A i) rfl).2
    omega

set_option maxHeartbeats 1600000 in
theorem toChunkS_any (a : Option Addr) (c n : Nat) (D : Nat → Int) (P : Nat → List Int) (w : World) (h : RdC w a D P n) (hn : n ≤ 1048576) (hP : ∀ i, i < n → (P i).length ≤ 1048576) :
    Calls Tryz.prog 76 #[.slice a n c] w fun e w' => ∃ G, e = .returned (.slice (some ⟨G, 0, none⟩) n n) ∧ w.heap.size ≤ G ∧ GC w.heap.size w'.heap.size w' (.slice (some ⟨G, 0, none⟩) n n) D P n ∧ Below w.heap.size w w' := by
  obtain ⟨i1, ki, kz0, kz1, kz2⟩ := info_parts Tryz.infoCh
  have HA := hide h
  have HP := hide hP
  clear h hP
  have hby : i1.bytes * n ≤ 281474976710656 := by rw [kz2]; omega
  have hml : n ≤ maxLen := by unfold maxLen; omega
  go_enter Tryz.func76, Tryz.ntmps76
  go_wp2_with (at_make; refine wpList_make_full _ rfl (.tmp 6) (.tmp 6) 26 rfl w.heap.size 70 i1 (.agg #[.int .i64 0, .slice none 0 0]) 2 Tryz.underlying26 ki kz0 kz1 .i64 .i64 _ _ n rfl rfl rfl rfl hby hml (Nat.le_refl _) ?_; intro w1 ho1 hg1; have HO1 := hide ho1; have HG1 := hide hg1; clear ho1 hg1)
  have hz : madeCells (Value.agg #[.int .i64 0, .slice none 0 0]).cells (n * 2) = madeCells #[.int .i64 0, .slice none 0 0] (n * 2) := rfl
  have T1 : Hid (ToC w.heap.size w1 (.slice (some ⟨w.heap.size, 0, none⟩) n n) D P n 0) := by
    refine ⟨fun _ => 0, ?_, fun i hi => absurd hi (by omega), fun i i' hi => absurd hi (by omega)⟩
    rw [← laid_zero n D P (fun _ => 0)]
    exact HO1.out
  have B1 : Hid (Below w.heap.size w w1) := (Below.refl _ _).grown HG1.out (Nat.le_refl _) (fun k hk => by simp at hk)
  clear hz HO1 HG1
  go_loopw [4] (fun i wr => ∃ k : Nat, k ≤ n ∧ i = .int .i64 k ∧ ToC w.heap.size wr (.slice (some ⟨w.heap.size, 0, none⟩) n n) D P n k ∧ Below w.heap.size w wr) (fun i _ => n - (intOf i).toNat)
  case atStart => exact ⟨0, Nat.zero_le _, rfl, T1.out, B1.out⟩
  case round =>
    obtain ⟨k, hk, rfl, hT, hbel⟩ := hrel
    have HT := hide hT
    have HW := hide hbel
    have hsz := hbel.size
    clear hT hbel T1 B1
    by_cases hlt : k < n
    · obtain ⟨b1, o1, A1, C1, rfl, hb1, hc1⟩ := (HA.out.below HW.out) (by omega)
      obtain ⟨c1, e1, r1⟩ := hc1 k hlt
      have hp := HP.out k hlt
      generalize A1 k = a1 at e1 r1
      generalize C1 k = d1 at e1
      have R1 := hide r1
      clear hc1 r1
      have HST := hide (fun (w1 : World) (g : Nat) => HT.out.step (w1 := w1) (g := g) hlt hsz)
      obtain ⟨AA, q1, q2, q3⟩ := HT.out
      have hf := flat_get (n := n) (k := 2) (F := laid k D P AA) (fun i _ => laid_length _ _ _ _ _) k
      have Q1 := hide q1
      have hz0 : (flat n (laid k D P AA))[k * 2]? = some (.int .i64 0) := by
        have := hf 0 hlt (by decide)
        rw [Nat.add_zero] at this
        rw [this]; simp [laid]
      have hz1 : (flat n (laid k D P AA))[k * 2 + 1]? = some (.slice none 0 0) := by
        rw [hf 1 hlt (by decide)]; simp [laid]
      have Z0 := hide hz0
      have Z1 := hide hz1
      clear hf q1 q2 q3 hz0 hz1
      generalize hxs : P k = xs at *
      generalize hdd : D k = dd at *
      have HX := hide (And.intro hxs hdd)
      clear hxs hdd
      go_wp2_with (go_at_call 110; refine (toChunk_any dd a1 d1 xs _ R1.out hp).mono ?_; rintro e w2 ⟨g, rfl, hg, ho, hb⟩; have k1 := ownsRow_below Q1.out hb; have m0 : w2.cell? ⟨w.heap.size, k * 2, none⟩ = some (.int .i64 0) := (k1.cellAt (k * 2) (by omega)).trans Z0.out; have m1 : w2.cell? ⟨w.heap.size, k * 2 + 1, none⟩ = some (.slice none 0 0) := (k1.cellAt (k * 2 + 1) (by omega)).trans Z1.out; have m2 := k1.frozenAt (k * 2); have m3 := k1.frozenAt (k * 2 + 1); have HO2 := hide ho; have HB2 := hide hb; clear ho hb k1)
      go_roundw
      case rel => exact ⟨k + 1, by omega, by go_num, HST.out w2 g HB2.out HO2.out hg, ((below_next HW.out HB2.out).setCell (Nat.le_refl _) _).setCell (Nat.le_refl _) _⟩
      case measure => simp [intOf]; omega
    · have hke : k = n := by omega
      subst hke
      go_wp2
      go_ret
      exact ⟨_, rfl, Nat.le_refl _, HT.out.gc, HW.out⟩

end Go.Proofs.YtfamiehfpmjljaaGreatDoor

namespace Go.Proofs.YtfamiehfpmjljaaGreatDoor
open Go.RowKit
set_option linter.unusedVariables false

theorem chCells_length (D : Nat → Int) (P : Nat → List Int) (A : Nat → Option Addr) (C : Nat → Nat) (i : Nat) : (chCells D P A C i).length = 2 := rfl

theorem reads_owned {w : World} {B : Nat} {e : TypeId} {k : IntKind} {a : Option Addr} {n c : Nat} {zs : List Int} (h : w.ownsRow B e 1 (.slice a n c) n (zs.map (Value.int k))) (hn : n = zs.length) : Reads k w a zs := by
  intro hz
  have h0 : 0 < n := by rw [hn]; exact List.length_pos_iff.2 hz
  obtain ⟨g, cap, hv, hg, hgl, hc, hf⟩ := ownsRow_ints h hn h0
  simp only [Value.slice.injEq, true_and] at hv
  exact ⟨g, 0, hv.1, hgl, fun i hi => by rw [Nat.zero_add]; exact hc i (by omega)⟩

theorem GC.rd {B T : Nat} {w : World} {a : Option Addr} {c : Nat} {D : Nat → Int} {P : Nat → List Int} {n : Nat} (h : GC B T w (.slice a n c) D P n) : RdC w a D P n := by
  intro hn
  obtain ⟨A, C, h1, h2, h3, h4, h5⟩ := h
  rcases h1.2 with ⟨_, h0⟩ | ⟨g, cap, cur, h', hb, hh, hnc, hcm, hcs, htake⟩
  · omega
  · simp only [Value.slice.injEq, true_and] at h'
    obtain ⟨rfl, rfl⟩ := h'
    have hf := fun i r hi hr => flat_get (n := n) (k := 2) (F := chCells D P A C) (fun i _ => chCells_length _ _ _ _ _) i r hi hr
    refine ⟨g, 0, A, C, rfl, (h1.lt g rfl).2, fun i hi => ⟨?_, ?_, reads_owned (h2 i hi) rfl⟩⟩
    · rw [Nat.zero_add, h1.cellAt (i * 2) (by omega)]
      have := hf i 0 hi (by decide)
      rw [Nat.add_zero] at this
      rw [this]; rfl
    · rw [Nat.zero_add, h1.cellAt (i * 2 + 1) (by omega), hf i 1 hi (by decide)]; rfl

theorem GC.kept {S : Nat → Prop} {B T : Nat} {w w' : World} {v : Value} {D : Nat → Int} {P : Nat → List Int} {n : Nat} (h : GC B T w v D P n) (hk : Kept S w w') (hS : ∀ b, B ≤ b → b < T → ¬ S b) : GC B T w' v D P n := by
  obtain ⟨A, C, h1, h2, h3, h4, h5⟩ := h
  refine ⟨A, C, ownsRow_kept h1 hk (fun b hb => hS b (h1.lt b hb).1 (h5 b hb)), fun i hi => ownsRow_kept (h2 i hi) hk (fun b hb => hS b ((h2 i hi).lt b hb).1 (h4 i b hi ?_)), h3, h4, h5⟩
  cases hA : A i with
  | none => rw [hA] at hb; simp [Value.ownBlock] at hb
  | some x => rw [hA] at hb; simpa [Value.ownBlock] using hb
theorem GC.below {B T : Nat} {w w' : World} {v : Value} {D : Nat → Int} {P : Nat → List Int} {n : Nat} (h : GC B T w v D P n) (hk : Below w.heap.size w w') : GC B T w' v D P n :=
  h.kept (S := fun _ => False) (Kept.of_below hk) (fun _ _ _ => id)

theorem GC.mono {B B' T : Nat} {w : World} {v : Value} {D : Nat → Int} {P : Nat → List Int} {n : Nat} (h : GC B T w v D P n) (hB : B' ≤ B) : GC B' T w v D P n := by
  obtain ⟨A, C, h1, h2, h3, h4, h5⟩ := h
  exact ⟨A, C, ownsRow_mono h1 hB, fun i hi => ownsRow_mono (h2 i hi) hB, h3, h4, h5⟩
theorem GC.wide {B T T' : Nat} {w : World} {v : Value} {D : Nat → Int} {P : Nat → List Int} {n : Nat} (h : GC B T w v D P n) (hT : T ≤ T') : GC B T' w v D P n := by
  obtain ⟨A, C, h1, h2, h3, h4, h5⟩ := h
  exact ⟨A, C, h1, h2, h3, fun i g hi hg => Nat.lt_of_lt_of_le (h4 i g hi hg) hT, fun b hb => Nat.lt_of_lt_of_le (h5 b hb) hT⟩
theorem GC.nil (B T : Nat) (w : World) (D : Nat → Int) (P : Nat → List Int) : GC B T w (.slice none 0 0) D P 0 :=
  ⟨fun _ => none, fun _ => 0, World.ownsRow_nil _ _ _ _, fun i hi => absurd hi (by omega), fun i i' g hi => absurd hi (by omega), fun i g hi => absurd hi (by omega), fun b hb => by simp [Value.ownBlock] at hb⟩
end Go.Proofs.YtfamiehfpmjljaaGreatDoor

namespace Go.Proofs.YtfamiehfpmjljaaGreatDoor
open Go.RowKit
set_option linter.unusedVariables false

def fnvStep (h z : Int) : Int := bits BinOp.xor IntKind.u32 h z * 16777619 % 4294967296
def fnv (zs : List Int) : Int := zs.foldl fnvStep 2166136261
def digest (zs : List Int) : Int := wrap64 (bits BinOp.xor IntKind.u32 (fnv zs) ((zs.length : Int) * 65536 % 4294967296))
theorem fnv_step {zs : List Int} {k : Nat} {z : Int} (hk : k < zs.length) (hz : zs.getD k 0 = z) : fnv (zs.take (k + 1)) = fnvStep (fnv (zs.take k)) z := by
  unfold fnv
  rw [List.take_succ_eq_append_getElem hk, List.foldl_append]
  simp [List.getD_eq_getElem?_getD, hk] at hz
  simp [hz]

set_option maxHeartbeats 400000 in
theorem specDigestOf_any (a : Option Addr) (cap : Nat) (zs : List Int) (w : World) (h : Reads .u8 w a zs) (hu : U8 zs) (hl : zs.length ≤ 1048576) :
    Calls Tryz.prog 39 #[.slice a zs.length cap] w fun e w' => e = .returned (.int .i64 (digest zs)) ∧ w' = w := by
  go_enter Tryz.func39, Tryz.ntmps39
  go_wp2
  go_loop [3, 4] (fun h i => ∃ k : Nat, k ≤ zs.length ∧ i = .int .i64 k ∧ h = .int .u32 (fnv (zs.take k))) (fun _ i => zs.length - (intOf i).toNat)
  case atStart => exact ⟨0, Nat.zero_le _, rfl, rfl⟩
  case round =>
    obtain ⟨k, hk, rfl, rfl⟩ := hrel
    generalize hx : fnv (zs.take k) = x
    have HX := hide hx
    clear hx
    by_cases hlt : k < zs.length
    · obtain ⟨b, off, rfl, hb, hc⟩ := h (by intro e; simp [e] at hlt)
      have hz01 := hu.get k
      have hc1 := hc k hlt
      generalize hz : zs.getD k 0 = z at hz01 hc1
      have HZ := hide hz
      have HC := hide hc
      clear hc h hz
      go_wp2
      go_round
      case rel => exact ⟨k + 1, by omega, by go_num, by rw [fnv_step hlt HZ.out, HX.out]; rfl⟩
      case measure => simp [intOf]; omega
    · go_wp2
      go_ret
      exact ⟨ret_int (by unfold digest; rw [← HX.out, List.take_of_length_le (by omega)]), rfl⟩

set_option maxHeartbeats 400000 in
theorem implDigestOf_any (a : Option Addr) (cap : Nat) (zs : List Int) (w : World) (h : Reads .u8 w a zs) (hu : U8 zs) (hl : zs.length ≤ 1048576) :
    Calls Tryz.prog 13 #[.slice a zs.length cap] w fun e w' => e = .returned (.int .i64 (digest zs)) ∧ w' = w := by
  go_enter Tryz.func13, Tryz.ntmps13
  go_wp2
  go_loop [3, 5, 8] (fun h _ i => ∃ k : Nat, k ≤ zs.length ∧ i = .int .i64 k ∧ h = .int .u32 (fnv (zs.take k))) (fun _ _ i => zs.length - (intOf i).toNat)
  case atStart => exact ⟨0, Nat.zero_le _, rfl, rfl⟩
  case round =>
    obtain ⟨k, hk, rfl, rfl⟩ := hrel
    generalize hx : fnv (zs.take k) = x
    have HX := hide hx
    clear hx
    by_cases hlt : k < zs.length
    · obtain ⟨b, off, rfl, hb, hc⟩ := h (by intro e; simp [e] at hlt)
      have hz01 := hu.get k
      have hc1 := hc k hlt
      generalize hz : zs.getD k 0 = z at hz01 hc1
      have HZ := hide hz
      have HC := hide hc
      clear hc h hz
      go_wp2
      go_round
      case rel => exact ⟨k + 1, by omega, by go_num, by rw [fnv_step hlt HZ.out, HX.out]; rfl⟩
      case measure => simp [intOf]; omega
    · go_wp2
      go_ret
      exact ⟨ret_int (by unfold digest; rw [← HX.out, List.take_of_length_le (by omega)]), rfl⟩

end Go.Proofs.YtfamiehfpmjljaaGreatDoor

namespace Go.Proofs.YtfamiehfpmjljaaGreatDoor
open Go.RowKit
set_option linter.unusedVariables false

def oneFault (d : Int) (zs : List Int) : Int :=
  if 0 ≤ d ∧ d ≤ 4294967295 then (if 1 ≤ zs.length ∧ zs.length ≤ 8 then (if digest zs = d then 0 else 6) else 2) else 3
def atFault (D : Nat → Int) (P : Nat → List Int) (i : Nat) : Option Int :=
  if oneFault (D i) (P i) ≠ 0 then some (oneFault (D i) (P i)) else if 0 < i ∧ D i ≤ D (i - 1) then some 1 else none
def firstBad (f : Nat → Option Int) : Nat → Nat → Int
  | _, 0 => 0
  | i, m + 1 => match f i with | some c => c | none => firstBad f (i + 1) m
def fault (D : Nat → Int) (P : Nat → List Int) (n : Nat) : Int := if 40 < n then 2 else firstBad (atFault D P) 0 n

theorem firstBad_hit {f : Nat → Option Int} {k n : Nat} {c : Int} (hk : k < n) (h : f k = some c) : firstBad f k (n - k) = c := by
  obtain ⟨m, hm⟩ : ∃ m, n - k = m + 1 := ⟨n - k - 1, by omega⟩
  rw [hm]; simp [firstBad, h]
theorem firstBad_miss {f : Nat → Option Int} {k n : Nat} (hk : k < n) (h : f k = none) : firstBad f k (n - k) = firstBad f (k + 1) (n - (k + 1)) := by
  obtain ⟨m, hm⟩ : ∃ m, n - k = m + 1 := ⟨n - k - 1, by omega⟩
  have : n - (k + 1) = m := by omega
  rw [hm, this]; simp [firstBad, h]
theorem firstBad_end {f : Nat → Option Int} {k n : Nat} (hk : n ≤ k) : firstBad f k (n - k) = 0 := by
  have : n - k = 0 := by omega
  rw [this]; rfl
theorem firstBad_none {f : Nat → Option Int} (hf : ∀ j c, f j = some c → c ≠ 0) : ∀ (m i : Nat), firstBad f i m = 0 → ∀ j, i ≤ j → j < i + m → f j = none
  | 0, i, _, j, h1, h2 => by omega
  | m + 1, i, h, j, h1, h2 => by
    simp only [firstBad] at h
    cases hi : f i with
    | some c => rw [hi] at h; exact absurd h (hf i c hi)
    | none =>
      rw [hi] at h
      by_cases e : j = i
      · subst e; exact hi
      · exact firstBad_none hf m (i + 1) h j (by omega) (by omega)

theorem atFault_ne (D : Nat → Int) (P : Nat → List Int) (j : Nat) (c : Int) (h : atFault D P j = some c) : c ≠ 0 := by
  unfold atFault at h
  split at h
  · rename_i h1; cases h; exact h1
  · split at h
    · cases h; decide
    · cases h
theorem oneFault_zero {d : Int} {zs : List Int} (h : oneFault d zs = 0) : (0 ≤ d ∧ d ≤ 4294967295) ∧ (1 ≤ zs.length ∧ zs.length ≤ 8) ∧ digest zs = d := by
  unfold oneFault at h
  split at h
  · rename_i h1
    split at h
    · rename_i h2
      split at h
      · rename_i h3; exact ⟨h1, h2, h3⟩
      · omega
    · omega
  · omega
structure RightC (D : Nat → Int) (P : Nat → List Int) (n : Nat) : Prop where
  many : n ≤ 40
  range : ∀ i, i < n → 0 ≤ D i ∧ D i ≤ 4294967295
  len : ∀ i, i < n → 1 ≤ (P i).length ∧ (P i).length ≤ 8
  sum : ∀ i, i < n → digest (P i) = D i
  up : ∀ i, i + 1 < n → D i < D (i + 1)
theorem fault_zero {D : Nat → Int} {P : Nat → List Int} {n : Nat} (h : fault D P n = 0) : RightC D P n := by
  unfold fault at h
  split at h
  · omega
  · rename_i hn
    have hz := firstBad_none (atFault_ne D P) n 0 h
    have hone : ∀ i, i < n → oneFault (D i) (P i) = 0 ∧ ¬ (0 < i ∧ D i ≤ D (i - 1)) := fun i hi => by
      have := hz i (Nat.zero_le _) (by omega)
      unfold atFault at this
      split at this
      · cases this
      · rename_i h1
        split at this
        · cases this
        · rename_i h2; exact ⟨Decidable.not_not.1 h1, h2⟩
    refine ⟨by omega, fun i hi => (oneFault_zero (hone i hi).1).1, fun i hi => (oneFault_zero (hone i hi).1).2.1, fun i hi => (oneFault_zero (hone i hi).1).2.2, fun i hi => ?_⟩
    have := (hone (i + 1) hi).2
    simp only [Nat.add_sub_cancel] at this
    omega
theorem firstBad_zero {f : Nat → Option Int} : ∀ (m i : Nat), (∀ j, i ≤ j → j < i + m → f j = none) → firstBad f i m = 0
  | 0, _, _ => rfl
  | m + 1, i, h => by
    simp only [firstBad, h i (Nat.le_refl _) (by omega)]
    exact firstBad_zero m (i + 1) (fun j h1 h2 => h j (by omega) (by omega))
end Go.Proofs.YtfamiehfpmjljaaGreatDoor

namespace Go.Proofs.YtfamiehfpmjljaaGreatDoor
open Go.RowKit
set_option linter.unusedVariables false

set_option maxHeartbeats 400000 in
theorem specOne_any (d : Int) (a : Option Addr) (c : Nat) (zs : List Int) (w : World) (h : Reads .u8 w a zs) (hu : U8 zs) (hl : zs.length ≤ 1048576) :
    Calls Tryz.prog 50 #[.int .i64 d, .slice a zs.length c] w fun e w' => e = .returned (.int .i64 (oneFault d zs)) ∧ ∃ n, w' = w.drewN n := by
  have HR := hide h
  have HU := hide hu
  clear h hu
  unfold oneFault
  by_cases c1 : 0 ≤ d
  · by_cases c2 : d ≤ 4294967295
    · rw [if_pos ⟨c1, c2⟩]
      by_cases c3 : 1 ≤ zs.length
      · by_cases c4 : zs.length ≤ 8
        · rw [if_pos ⟨c3, c4⟩]
          have c3' : ¬ (zs.length : Int) < 1 := by omega
          have c4' : ¬ (8 : Int) < (zs.length : Int) := by omega
          have HD := hide (specDigestOf_any a c zs w HR.out HU.out hl)
          generalize digest zs = g at HD ⊢
          by_cases c5 : g = d
          · have c5' : (g != d) = false := by simp [c5]
            rw [if_pos c5]
            clear c5
            go_enter Tryz.func50, Tryz.ntmps50
            go_wp2_with (first | (go_at_call 39; refine HD.out.mono ?_; rintro e w1 ⟨rfl, rfl⟩) | go_in)
            go_ret
            exact ⟨rfl, 0, rfl⟩
          · have c5' : (g != d) = true := by simp [c5]
            rw [if_neg c5]
            clear c5
            go_enter Tryz.func50, Tryz.ntmps50
            go_wp2_with (first | (go_at_call 39; refine HD.out.mono ?_; rintro e w1 ⟨rfl, rfl⟩) | go_in)
            go_ret
            exact ⟨rfl, 0, rfl⟩
        · rw [if_neg (fun h => c4 h.2)]
          have c3' : ¬ (zs.length : Int) < 1 := by omega
          have c4' : (8 : Int) < (zs.length : Int) := by omega
          go_enter Tryz.func50, Tryz.ntmps50
          go_wp2
          go_ret
          exact ⟨rfl, 0, rfl⟩
      · rw [if_neg (fun h => c3 h.1)]
        have c3' : (zs.length : Int) < 1 := by omega
        go_enter Tryz.func50, Tryz.ntmps50
        go_wp2
        go_ret
        exact ⟨rfl, 0, rfl⟩
    · rw [if_neg (fun h => c2 h.2)]
      go_enter Tryz.func50, Tryz.ntmps50
      go_wp2
      go_ret
      exact ⟨rfl, 0, rfl⟩
  · rw [if_neg (fun h => c1 h.1)]
    go_enter Tryz.func50, Tryz.ntmps50
    go_wp2
    go_ret
    exact ⟨rfl, 0, rfl⟩

set_option maxHeartbeats 800000 in
theorem implOne_any (d : Int) (a : Option Addr) (c : Nat) (zs : List Int) (w : World) (h : Reads .u8 w a zs) (hu : U8 zs) (hl : zs.length ≤ 1048576) :
    Calls Tryz.prog 42 #[.agg #[.int .i64 d, .slice a zs.length c]] w fun e w' => e = .returned (.int .i64 (oneFault d zs)) ∧ Below w.heap.size w w' := by
  have HR := hide h
  have HU := hide hu
  clear h hu
  unfold oneFault
  by_cases c1 : 0 ≤ d
  · by_cases c2 : d ≤ 4294967295
    · rw [if_pos ⟨c1, c2⟩]
      by_cases c3 : 1 ≤ zs.length
      · by_cases c4 : zs.length ≤ 8
        · rw [if_pos ⟨c3, c4⟩]
          have c3' : ¬ (zs.length : Int) < 1 := by omega
          have c4' : ¬ (8 : Int) < (zs.length : Int) := by omega
          have HD := hide (fun u hr => implDigestOf_any a c zs u hr HU.out hl)
          generalize digest zs = g at HD ⊢
          have HR1 := hide (HR.out.below (below_alloc w (.cells #[.int .i64 d, .slice a zs.length c] 70)))
          have HB1 := hide (below_alloc w (.cells #[.int .i64 d, .slice a zs.length c] 70))
          by_cases c5 : g = d
          · have c5' : (g != d) = false := by simp [c5]
            rw [if_pos c5]
            clear c5
            go_enter Tryz.func42, Tryz.ntmps42
            go_wp2
            go_quiet ((go_at_call 13; exact Calls.quiet_of ((HD.out _ (show Reads .u8 (World.drewN (w.alloc (.cells #[.int .i64 d, .slice a zs.length c] 70)) _) a zs from HR1.out)).mono (fun e w' ⟨he, hw⟩ => ⟨he, 0, hw⟩))))
            go_wp2
            go_ret
            exact ⟨rfl, below_drewN HB1.out _⟩
          · have c5' : (g != d) = true := by simp [c5]
            rw [if_neg c5]
            clear c5
            go_enter Tryz.func42, Tryz.ntmps42
            go_wp2
            go_quiet ((go_at_call 13; exact Calls.quiet_of ((HD.out _ (show Reads .u8 (World.drewN (w.alloc (.cells #[.int .i64 d, .slice a zs.length c] 70)) _) a zs from HR1.out)).mono (fun e w' ⟨he, hw⟩ => ⟨he, 0, hw⟩))))
            go_wp2
            go_ret
            exact ⟨rfl, below_drewN HB1.out _⟩
        · rw [if_neg (fun h => c4 h.2)]
          have c3' : ¬ (zs.length : Int) < 1 := by omega
          have c4' : (8 : Int) < (zs.length : Int) := by omega
          go_enter Tryz.func42, Tryz.ntmps42
          go_wp2
          go_ret
          exact ⟨rfl, below_alloc _ _⟩
      · rw [if_neg (fun h => c3 h.1)]
        have c3' : (zs.length : Int) < 1 := by omega
        go_enter Tryz.func42, Tryz.ntmps42
        go_wp2
        go_ret
        exact ⟨rfl, below_alloc _ _⟩
    · rw [if_neg (fun h => c2 h.2)]
      go_enter Tryz.func42, Tryz.ntmps42
      go_wp2
      go_ret
      exact ⟨rfl, below_alloc _ _⟩
  · rw [if_neg (fun h => c1 h.1)]
    go_enter Tryz.func42, Tryz.ntmps42
    go_wp2
    go_ret
    exact ⟨rfl, below_alloc _ _⟩

theorem atFault_one {D : Nat → Int} {P : Nat → List Int} {k : Nat} {q : Int} (h : oneFault (D k) (P k) = q) (hq : q ≠ 0) : atFault D P k = some q := by
  unfold atFault; rw [h, if_pos hq]
theorem atFault_first {D : Nat → Int} {P : Nat → List Int} (h : oneFault (D 0) (P 0) = 0) : atFault D P 0 = none := by
  unfold atFault; rw [h, if_neg (by simp), if_neg (by simp)]
theorem atFault_form {D : Nat → Int} {P : Nat → List Int} {k : Nat} (h : oneFault (D (k + 1)) (P (k + 1)) = 0) (hd : D (k + 1) ≤ D k) : atFault D P (k + 1) = some 1 := by
  unfold atFault; rw [h, if_neg (by simp), if_pos ⟨by omega, by simpa using hd⟩]
theorem atFault_none {D : Nat → Int} {P : Nat → List Int} {k : Nat} (h : oneFault (D (k + 1)) (P (k + 1)) = 0) (hd : ¬ D (k + 1) ≤ D k) : atFault D P (k + 1) = none := by
  unfold atFault; rw [h, if_neg (by simp), if_neg (fun h => hd (by simpa using h.2))]

set_option maxHeartbeats 1600000 in
theorem specFault_any (a : Option Addr) (c n : Nat) (D : Nat → Int) (P : Nat → List Int) (w : World) (h : RdC w a D P n) (hn : n ≤ 1048576) (hP : ∀ i, i < n → U8 (P i) ∧ (P i).length ≤ 1048576) :
    Calls Tryz.prog 90 #[.slice a n c] w fun e w' => e = .returned (.int .i64 (fault D P n)) ∧ Below w.heap.size w w' := by
  have HA := hide h
  have HP := hide hP
  clear h hP
  by_cases hbig : 40 < n
  · have hb : (40 : Int) < (n : Int) := by omega
    have hf : fault D P n = 2 := by simp [fault, hbig]
    rw [hf]
    go_enter Tryz.func90, Tryz.ntmps90
    go_wp2
    go_ret
    exact ⟨rfl, Below.refl _ _⟩
  · have hb : ¬ (40 : Int) < (n : Int) := by omega
    have HF : Hid (fault D P n = firstBad (atFault D P) 0 (n - 0)) := by simp [fault, hbig, Hid]
    generalize hfl : fault D P n = F at HF ⊢
    clear hfl
    go_enter Tryz.func90, Tryz.ntmps90
    go_wp2
    go_loopw [3, 4] (fun i _ wr => ∃ k : Nat, k ≤ n ∧ i = .int .i64 k ∧ F = firstBad (atFault D P) k (n - k) ∧ Below w.heap.size w wr) (fun i _ _ => n - (intOf i).toNat)
    case atStart => exact ⟨0, Nat.zero_le _, rfl, HF.out, Below.refl _ _⟩
    case round =>
      obtain ⟨k, hk, rfl, hF, hbel⟩ := hrel
      have HF := hide hF
      have HW := hide hbel
      clear hF hbel
      by_cases hlt : k < n
      · obtain ⟨b1, o1, A1, C1, rfl, hb1, hc1⟩ := (HA.out.below HW.out) (by omega)
        obtain ⟨c1, e1, r1⟩ := hc1 k hlt
        obtain ⟨hu, hp⟩ := HP.out k hlt
        generalize A1 k = a1 at e1 r1
        generalize C1 k = d1 at e1
        have R1 := hide r1
        have U1 := hide hu
        have HC := hide hc1
        clear hc1 r1 hu
        generalize hq : oneFault (D k) (P k) = q
        have hone := hide (fun (m : Nat) => by have := specOne_any (D k) a1 d1 (P k) (wr.drewN m) R1.out U1.out hp; rwa [hq] at this)
        have HQ := hide hq
        clear hq
        generalize hxs : P k = xs at *
        generalize hdd : D k = dd at *
        have HX := hide (And.intro hxs hdd)
        clear hxs hdd
        by_cases hz : q = 0
        · have hz' : (q != 0) = false := by simp [hz]
          have HZ := hide hz
          clear hz
          cases k with
          | zero =>
            simp only [Nat.zero_mul, Nat.add_zero] at c1 e1
            go_wp2
            go_quiet ((go_at_call 50; exact Calls.quiet_of (hone.out _)))
            go_wp2
            go_quiet (fail)
            go_wp2
            go_roundw
            case rel => exact ⟨1, by omega, by go_num, by rw [HF.out]; exact firstBad_miss hlt (atFault_first (by have := HX.out; rw [this.1, this.2, HQ.out]; exact HZ.out)), below_drewN HW.out _⟩
            case measure => simp [intOf]; omega
          | succ k =>
            have hg : (0 : Int) < ((k + 1 : Nat) : Int) := by omega
            obtain ⟨c0, _, _⟩ := HC.out k (by omega)
            generalize hd0 : D k = d0 at c0
            have HD0 := hide hd0
            clear hd0
            by_cases hle : dd ≤ d0
            · go_wp2
              go_quiet ((go_at_call 50; exact Calls.quiet_of (hone.out _)))
              go_wp2
              go_quiet (fail)
              go_wp2
              go_ret
              exact ⟨ret_int (by rw [HF.out]; exact (firstBad_hit hlt (atFault_form (by have := HX.out; rw [this.1, this.2, HQ.out]; exact HZ.out) (by rw [HX.out.2, HD0.out]; omega))).symm), below_drewN (below_drewN HW.out _) _⟩
            · go_wp2
              go_quiet ((go_at_call 50; exact Calls.quiet_of (hone.out _)))
              go_wp2
              go_quiet (fail)
              go_wp2
              go_roundw
              case rel => exact ⟨k + 1 + 1, by omega, by go_num, by rw [HF.out]; exact firstBad_miss hlt (atFault_none (by have := HX.out; rw [this.1, this.2, HQ.out]; exact HZ.out) (by rw [HX.out.2, HD0.out]; omega)), below_drewN HW.out _⟩
              case measure => simp [intOf]; omega
        · have hz' : (q != 0) = true := by simp [hz]
          go_wp2
          go_quiet ((go_at_call 50; exact Calls.quiet_of (hone.out _)))
          go_wp2
          go_ret
          exact ⟨ret_int (by rw [HF.out]; exact (firstBad_hit hlt (atFault_one (by rw [HX.out.1, HX.out.2]; exact HQ.out) hz)).symm), below_drewN HW.out _⟩
      · go_wp2
        go_ret
        exact ⟨ret_int (by rw [HF.out]; exact (firstBad_end (by omega)).symm), HW.out⟩

set_option maxHeartbeats 1600000 in
theorem implFault_any (a : Option Addr) (c n : Nat) (D : Nat → Int) (P : Nat → List Int) (w : World) (h : RdC w a D P n) (hn : n ≤ 1048576) (hP : ∀ i, i < n → U8 (P i) ∧ (P i).length ≤ 1048576) :
    Calls Tryz.prog 53 #[.slice a n c] w fun e w' => e = .returned (.int .i64 (fault D P n)) ∧ Below w.heap.size w w' := by
  have HA := hide h
  have HP := hide hP
  clear h hP
  by_cases hbig : 40 < n
  · have hb : (40 : Int) < (n : Int) := by omega
    have hf : fault D P n = 2 := by simp [fault, hbig]
    rw [hf]
    go_enter Tryz.func53, Tryz.ntmps53
    go_wp2
    go_ret
    exact ⟨rfl, Below.refl _ _⟩
  · have hb : ¬ (40 : Int) < (n : Int) := by omega
    have HF : Hid (fault D P n = firstBad (atFault D P) 0 (n - 0)) := by simp [fault, hbig, Hid]
    generalize hfl : fault D P n = F at HF ⊢
    clear hfl
    go_enter Tryz.func53, Tryz.ntmps53
    go_wp2
    go_loopw [3, 4, 5, 11] (fun _ _ _ i wr => ∃ k : Nat, k ≤ n ∧ i = .int .i64 k ∧ F = firstBad (atFault D P) k (n - k) ∧ Below w.heap.size w wr) (fun _ _ _ i _ => n - (intOf i).toNat)
    case atStart => exact ⟨0, Nat.zero_le _, rfl, HF.out, Below.refl _ _⟩
    case round =>
      obtain ⟨k, hk, rfl, hF, hbel⟩ := hrel
      have HF := hide hF
      have HW := hide hbel
      clear hF hbel
      by_cases hlt : k < n
      · obtain ⟨b1, o1, A1, C1, rfl, hb1, hc1⟩ := (HA.out.below HW.out) (by omega)
        obtain ⟨c1, e1, r1⟩ := hc1 k hlt
        obtain ⟨hu, hp⟩ := HP.out k hlt
        generalize A1 k = a1 at e1 r1
        generalize C1 k = d1 at e1
        have R1 := hide r1
        have U1 := hide hu
        have HC := hide hc1
        clear hc1 r1 hu
        generalize hq : oneFault (D k) (P k) = q
        have HQ := hide hq
        clear hq
        generalize hxs : P k = xs at *
        generalize hdd : D k = dd at *
        have HX := hide (And.intro hxs hdd)
        clear hxs hdd
        have hone := implOne_any dd a1 d1 xs (wr.alloc (.cells #[.int .i64 dd, .slice a1 xs.length d1] 70)) (R1.out.below (below_alloc _ _)) U1.out hp
        rw [HQ.out] at hone
        have HO := hide hone
        clear hone
        go_wp2_with fail
        refine HO.out.mono ?_
        rintro e w2 ⟨rfl, b2⟩
        obtain ⟨t0, t1⟩ := (Two.new wr (.int .i64 dd) (.slice a1 xs.length d1) 70).below b2
        have B2 := hide (below_next (below_alloc _ _) b2)
        have BW := hide (below_next HW.out B2.out)
        clear b2 HO
        by_cases hz : q = 0
        · have hz' : (q != 0) = false := by simp [hz]
          have HZ := hide hz
          clear hz
          cases k with
          | zero =>
            go_wp2
            go_quiet (fail)
            go_wp2
            go_roundw
            case rel => exact ⟨1, by omega, by go_num, by rw [HF.out]; exact firstBad_miss hlt (atFault_first (by have := HX.out; rw [this.1, this.2, HQ.out]; exact HZ.out)), below_drewN BW.out _⟩
            case measure => simp [intOf]; omega
          | succ k =>
            have hg : (0 : Int) < ((k + 1 : Nat) : Int) := by omega
            obtain ⟨c0, _, _⟩ := HC.out k (by omega)
            have c0' := (B2.out.cell (p := ⟨b1, o1 + k * 2, none⟩) hb1).trans c0
            generalize hd0 : D k = d0 at c0'
            have HD0 := hide hd0
            clear hd0 c0
            by_cases hle : dd ≤ d0
            · go_wp2
              go_quiet (fail)
              go_wp2
              go_ret
              exact ⟨ret_int (by rw [HF.out]; exact (firstBad_hit hlt (atFault_form (by have := HX.out; rw [this.1, this.2, HQ.out]; exact HZ.out) (by rw [HX.out.2, HD0.out]; exact hle))).symm), below_drewN BW.out _⟩
            · go_wp2
              go_quiet (fail)
              go_wp2
              go_roundw
              case rel => exact ⟨k + 1 + 1, by omega, by go_num, by rw [HF.out]; exact firstBad_miss hlt (atFault_none (by have := HX.out; rw [this.1, this.2, HQ.out]; exact HZ.out) (by rw [HX.out.2, HD0.out]; omega)), below_drewN BW.out _⟩
              case measure => simp [intOf]; omega
        · have hz' : (q != 0) = true := by simp [hz]
          go_wp2
          go_ret
          exact ⟨ret_int (by rw [HF.out]; exact (firstBad_hit hlt (atFault_one (by rw [HX.out.1, HX.out.2]; exact HQ.out) hz)).symm), BW.out⟩
      · go_wp2
        go_ret
        exact ⟨ret_int (by rw [HF.out]; exact (firstBad_end (by omega)).symm), HW.out⟩


end Go.Proofs.YtfamiehfpmjljaaGreatDoor

namespace Go.Proofs.YtfamiehfpmjljaaGreatDoor
open Go.RowKit Go.Maps
set_option linter.unusedVariables false

abbrev Ch := Int × List Int
def lst (D : Nat → Int) (P : Nat → List Int) (n : Nat) : List Ch := (List.range n).map fun i => (D i, P i)
theorem lst_succ (D : Nat → Int) (P : Nat → List Int) (n : Nat) : lst D P (n + 1) = lst D P n ++ [(D n, P n)] := by simp [lst, List.range_succ]
theorem lst_length (D : Nat → Int) (P : Nat → List Int) (n : Nat) : (lst D P n).length = n := by simp [lst]
theorem lst_mem {D : Nat → Int} {P : Nat → List Int} {n : Nat} {p : Ch} : p ∈ lst D P n ↔ ∃ i, i < n ∧ p = (D i, P i) := by
  simp [lst, eq_comm]
theorem lst_key {D : Nat → Int} {P : Nat → List Int} {n : Nat} {d : Int} : d ∈ (lst D P n).map Prod.fst ↔ ∃ i, i < n ∧ D i = d := by
  simp [lst]

def RV (v : Value) : Option (DataW Value × List MemPlace) := some (.held v, [])
def chv (d : Int) (a : Option Addr) (n c : Nat) : Value := .agg #[.int .i64 d, .slice a n c]

theorem law64 : Keyed Tryz.prog 2 := int_keyed Tryz.underlying2
theorem zeroCh (w : World) : (zeroValue 70).run Tryz.prog w = .ok (.agg #[.int .i64 0, .slice none 0 0]) w := by kernel_rfl
theorem i64_wf {d : Int} (h0 : 0 ≤ d) (h1 : d ≤ 4294967295) : (Lit.int .i64 d).wf = true := by
  simp [Lit.wf, IntKind.min, IntKind.max, IntKind.signed, IntKind.bits]; omega
theorem key64 {d : Int} (h : (Lit.int .i64 d).wf = true) : keyOf Tryz.prog 2 (.int .i64 d) = some (.int .i64 d) := keyOf_int_mk Tryz.underlying2 h

def Holds (w : World) (b N : Nat) (L : List Ch) (T : Nat) : Prop :=
  ∃ (Dt : DataW Value) (A : Int → Option Addr) (C : Int → Nat), w.ownsMap Tryz.prog 2 RV b N Dt ∧ (∀ k, has Dt (.int .i64 k) = decide (k ∈ L.map Prod.fst)) ∧
    (∀ p ∈ L, (∀ z, Dt.atKey (.int .i64 p.1) z = .held (chv p.1 (A p.1) p.2.length (C p.1))) ∧ Reads .u8 w (A p.1) p.2 ∧ ∀ x, A p.1 = some x → x.block < T) ∧ size Dt = L.length ∧ (L.map Prod.fst).Nodup

theorem Holds.lt {w : World} {b N : Nat} {L : List Ch} {T : Nat} (h : Holds w b N L T) : b < w.heap.size := by
  obtain ⟨Dt, A, C, h1, _⟩ := h
  exact h1.lt

theorem ownsMap_kept {S : Nat → Prop} {w w' : World} {b N : Nat} {Dt : DataW Value} (h : w.ownsMap Tryz.prog 2 RV b N Dt) (hk : Kept S w w') (hb : ¬ S b) : w'.ownsMap Tryz.prog 2 RV b N Dt := by
  have hlt := h.lt
  obtain ⟨es, clock, hh, r⟩ := h
  exact ⟨es, clock, (hk.block b hlt hb).trans hh, r⟩
theorem ownsMap_cell {w : World} {b N : Nat} {Dt : DataW Value} (h : w.ownsMap Tryz.prog 2 RV b N Dt) {b' o : Nat} {v : Value} (hc : w.cell? ⟨b', o, none⟩ = some v) : b' ≠ b := by
  obtain ⟨es, clock, hh, r⟩ := h
  intro e
  subst e
  simp [World.cell?, hh] at hc
theorem Reads.far {w : World} {b N : Nat} {Dt : DataW Value} (h : w.ownsMap Tryz.prog 2 RV b N Dt) {a : Option Addr} {zs : List Int} (hr : Reads .u8 w a zs) : zs ≠ [] → ∀ x, a = some x → x.block ≠ b := by
  intro hz x hx
  obtain ⟨b1, off, e, hb, hc⟩ := hr hz
  subst e
  cases hx
  have h0 : 0 < zs.length := List.length_pos_iff.2 hz
  exact ownsMap_cell h (hc 0 h0)

theorem Holds.kept {S : Nat → Prop} {w w' : World} {b N : Nat} {L : List Ch} {T : Nat} (h : Holds w b N L T) (hk : Kept S w w') (hb : ¬ S b) (hS : ∀ x, S x → T ≤ x) : Holds w' b N L T := by
  obtain ⟨Dt, A, C, h1, h2, h3, h4⟩ := h
  refine ⟨Dt, A, C, ownsMap_kept h1 hk hb, h2, fun p hp => ⟨(h3 p hp).1, (h3 p hp).2.1.kept hk (fun hz x hx hs => ?_), (h3 p hp).2.2⟩, h4⟩
  have h5 := hS _ hs
  have h6 := (h3 p hp).2.2 x hx
  omega
theorem Holds.below {w w' : World} {b N : Nat} {L : List Ch} {T : Nat} (h : Holds w b N L T) (hk : Below w.heap.size w w') : Holds w' b N L T :=
  h.kept (S := fun _ => False) (Kept.of_below hk) id (fun _ h => h.elim)

theorem Kept.of_grown {w w' : World} {b : Nat} (h : w.grownBy w' (some b)) : Kept (fun x => x = b) w w' :=
  ⟨h.os, h.tape, h.output, h.size, fun k hk hn => h.block k hk (fun e => hn (by simpa using e))⟩

theorem Holds.made (w : World) (T : Nat) : Holds (w.alloc (.map #[] 0)) w.heap.size 0 [] T :=
  ⟨.map [], fun _ => none, fun _ => 0, World.ownsMap_made _ _ _ _, fun k => by simp [has], fun p hp => by simp at hp, rfl, List.nodup_nil⟩

theorem isKey64 (d : Int) : WideAt.IsKeyLit (.int .i64 d) := trivial

theorem Holds.put {w : World} {b N : Nat} {L : List Ch} {d : Int} {zs : List Int} {a : Option Addr} {c T : Nat} (h : Holds w b N L T) (hd : d ∉ L.map Prod.fst) (hr : Reads .u8 w a zs) (hT : ∀ x, a = some x → x.block < T) :
    ∃ Dt, w.ownsMap Tryz.prog 2 RV b N Dt ∧ ∀ w', w'.ownsMap Tryz.prog 2 RV b (N + 1) (Dt.put (.int .i64 d) (.held (chv d a zs.length c))) → w.grownBy w' (some b) → Holds w' b (N + 1) (L ++ [(d, zs)]) T := by
  obtain ⟨Dt, A, C, h1, h2, h3, h4, h5⟩ := h
  refine ⟨Dt, h1, fun w' ho hg => ?_⟩
  have hk := Kept.of_grown hg
  have hkeep : ∀ {x : Option Addr} {ys : List Int}, Reads .u8 w x ys → Reads .u8 w' x ys := fun hx => hx.kept hk (fun hz y hy e => Reads.far h1 hx hz y hy e)
  have hne : ∀ p ∈ L, p.1 ≠ d := fun p hp e => hd (by rw [← e]; exact List.mem_map_of_mem hp)
  refine ⟨_, fun k => if k = d then a else A k, fun k => if k = d then c else C k, ho, fun k => ?_, fun p hp => ?_, ?_, ?_⟩
  · by_cases e : k = d
    · subst e
      rw [has_put_same h1.isMap (isKey64 _)]
      simp
    · rw [has_put_other (by simpa using e), h2 k]
      simp [e]
  · rcases List.mem_append.1 hp with hp | hp
    · have e := hne p hp
      simp only [if_neg e]
      exact ⟨fun z => by rw [atKey_put_other (by simpa using e)]; exact (h3 p hp).1 z, hkeep (h3 p hp).2.1, (h3 p hp).2.2⟩
    · simp at hp
      subst hp
      simp only [if_true]
      exact ⟨fun z => atKey_put_same h1.isMap (isKey64 _) _ _, hkeep hr, hT⟩
  · rw [size_put (h1.tidy law64), h2 d, h4]
    simp [hd]
  · rw [List.map_append, List.nodup_append]
    refine ⟨h5, by simp, fun x hx y hy => ?_⟩
    simp at hy
    subst hy
    intro e
    subst e
    exact hd hx

theorem Holds.yes {w : World} {b N : Nat} {L : List Ch} {d : Int} {zs : List Int} {T : Nat} (h : Holds w b N L T) (hp : (d, zs) ∈ L) (hw : (Lit.int .i64 d).wf = true) (t : TypeId) (ht : Tryz.prog.underlying t = some (.map 2 70)) :
    ∃ a c, (∀ k : Bool, (Instr.lookup t (.map (some b)) (.int .i64 d) k).run Tryz.prog w = .ok (if k then .tuple #[chv d a zs.length c, .bool true] else chv d a zs.length c) w) ∧ Reads .u8 w a zs ∧ ∀ x, a = some x → x.block < T := by
  obtain ⟨Dt, A, C, h1, h2, h3, h4, h5⟩ := h
  have hm : d ∈ L.map Prod.fst := List.mem_map_of_mem (f := Prod.fst) hp
  refine ⟨A d, C d, fun k => ?_, (h3 _ hp).2⟩
  cases k with
  | true =>
    obtain ⟨v, ps, hrun, hv⟩ := h1.look_ok law64 ht (zeroCh w) (zd := .held (.agg #[.int .i64 0, .slice none 0 0])) (zp := []) rfl (key64 hw)
    simp only [RV, Option.some.injEq, Prod.mk.injEq, (h3 _ hp).1] at hv
    have e := hv.1
    simp only [DataW.held.injEq] at e
    rw [hrun, h2 d]
    simp [hm, e]
  | false =>
    obtain ⟨v, ps, hrun, hv⟩ := h1.lookup law64 ht (zeroCh w) (zd := .held (.agg #[.int .i64 0, .slice none 0 0])) (zp := []) rfl (key64 hw)
    simp only [RV, Option.some.injEq, Prod.mk.injEq, (h3 _ hp).1] at hv
    have e := hv.1
    simp only [DataW.held.injEq] at e
    rw [hrun]
    simp [e]
theorem Holds.no {w : World} {b N : Nat} {L : List Ch} {d : Int} {T : Nat} (h : Holds w b N L T) (hp : d ∉ L.map Prod.fst) (hw : (Lit.int .i64 d).wf = true) (t : TypeId) (ht : Tryz.prog.underlying t = some (.map 2 70)) :
    (Instr.lookup t (.map (some b)) (.int .i64 d) true).run Tryz.prog w = .ok (.tuple #[.agg #[.int .i64 0, .slice none 0 0], .bool false]) w := by
  obtain ⟨Dt, A, C, h1, h2, h3, h4, h5⟩ := h
  obtain ⟨v, ps, hrun, hv⟩ := h1.look_ok law64 ht (zeroCh w) (zd := .held (.agg #[.int .i64 0, .slice none 0 0])) (zp := []) rfl (key64 hw)
  have hh : has Dt (.int .i64 d) = false := by rw [h2 d]; simpa using hp
  rw [atKey_of_not_has hh] at hv
  simp only [RV, Option.some.injEq, Prod.mk.injEq] at hv
  have e := hv.1
  simp only [DataW.held.injEq] at e
  rw [hrun, hh, e]

theorem wpList_look {P : Program} {w : World} {ops : Array Oper} {rest : List Oper} {o : Oper} {a : Act} {Q : Exit → Act → World → Prop} (hg : o.guard = none) (m x : Operand) (t : TypeId) (c : Bool) (hop : o.op = Op.lookup t m x c)
    (vm vx v : Value) (hm : a.eval m = vm) (hx : a.eval x = vx) (hrun : (Instr.lookup t vm vx c).run P w = .ok v w) (h : wpList P ops Q rest (a.put o.dst v) w) : wpList P ops Q (o :: rest) a w := by
  refine wpList_plain hg fun K' hK' => ?_
  unfold Oper.wp
  simp [execOp, hop, hm, hx, hrun, Result.andThen]
  exact hK' _ _ h

end Go.Proofs.YtfamiehfpmjljaaGreatDoor

