/-
  Texts put together: Chunks ChunksRd ChunksIn StoA.
-/
import Derived.Test.YtfamojijgjmcmaaKSameSt2
import Derived.Test.YtfamojijgjmcmaaKSameSt1
import Derived.Deep.SlicePairs
import Derived.ProofKit
import Derived.ChangeOld
namespace Go.Proofs.Ytfamojijgjmcmaa
open Go.RowKit
set_option linter.unusedVariables false

def RdC (w : World) (a : Option Addr) (D : Nat → Int) (P : Nat → List Int) (n : Nat) : Prop :=
  0 < n → ∃ (b off : Nat) (A : Nat → Option Addr) (C : Nat → Nat), a = some ⟨b, off, none⟩ ∧ b < w.heap.size ∧ ∀ i, i < n → w.cell? ⟨b, off + i * 2, none⟩ = some (.int .i64 (D i)) ∧ w.cell? ⟨b, off + i * 2 + 1, none⟩ = some (.slice (A i) (P i).length (C i)) ∧ Reads .u8 w (A i) (P i)

theorem RdC.below {w w' : World} {a : Option Addr} {D : Nat → Int} {P : Nat → List Int} {n : Nat} (h : RdC w a D P n) (hk : Below w.heap.size w w') : RdC w' a D P n := by
  intro hn
  obtain ⟨b, off, A, C, e, hb, hc⟩ := h hn
  exact ⟨b, off, A, C, e, Nat.lt_of_lt_of_le hb hk.size, fun i hi => ⟨(hk.cell (p := ⟨b, off + i * 2, none⟩) hb).trans (hc i hi).1, (hk.cell (p := ⟨b, off + i * 2 + 1, none⟩) hb).trans (hc i hi).2.1, (hc i hi).2.2.below hk⟩⟩

def chCells (D : Nat → Int) (P : Nat → List Int) (A : Nat → Option Addr) (C : Nat → Nat) (i : Nat) : List Value := [.int .i64 (D i), .slice (A i) (P i).length (C i)]

def GC (B T : Nat) (w : World) (v : Value) (D : Nat → Int) (P : Nat → List Int) (n : Nat) : Prop :=
  ∃ (A : Nat → Option Addr) (C : Nat → Nat), w.ownsRow B 54 2 v n (flat n (chCells D P A C)) ∧
    (∀ i, i < n → w.ownsRow B 5 1 (.slice (A i) (P i).length (C i)) (P i).length ((P i).map (Value.int .u8))) ∧
    (∀ i i' g, i < n → i' < n → (A i).map Addr.block = some g → (A i').map Addr.block = some g → i = i') ∧
    (∀ i g, i < n → (A i).map Addr.block = some g → g < T) ∧ ∀ b, v.ownBlock = some b → b < T

theorem Try.infoCh : (Try.prog.info? 54).map (fun i => (i.zero, i.size, i.bytes)) = some (some (.agg #[.int .i64 0, .slice none 0 0]), 2, 32) := by kernel_rfl

set_option maxHeartbeats 400000 in
theorem toChunk_any (d : Int) (a : Option Addr) (c : Nat) (zs : List Int) (w : World) (h : Reads .u8 w a zs) (hl : zs.length ≤ 1048576) :
    Calls Try.prog 49 #[.agg #[.int .i64 d, .slice a zs.length c]] w fun e w' => ∃ g, e = .returned (.agg #[.int .i64 d, .slice (some ⟨g, 0, none⟩) zs.length zs.length]) ∧ w.heap.size ≤ g ∧ w'.ownsRow w.heap.size 5 1 (.slice (some ⟨g, 0, none⟩) zs.length zs.length) zs.length (zs.map (Value.int .u8)) ∧ Below w.heap.size w w' := by
  have HR := hide h
  clear h
  go_enter Try.func49, Try.ntmps49
  go_wp2_with fail
  have X1 := hide ((Box.new (w.alloc (.cells #[.int .i64 d, .slice a zs.length c] 89)) (.int .i64 0) (.slice none 0 0) 54).below (below_alloc _ (.cells #[.int .i64 d, .slice none 0 0] 54)))
  have X2 := hide (Box.new ((w.alloc (.cells #[.int .i64 d, .slice a zs.length c] 89)).alloc (.cells #[.int .i64 0, .slice none 0 0] 54)) (.int .i64 d) (.slice none 0 0) 54)
  have B0 := hide (below_next (below_next (below_alloc w (.cells #[.int .i64 d, .slice a zs.length c] 89)) (below_alloc _ (.cells #[.int .i64 0, .slice none 0 0] 54))) (below_alloc _ (.cells #[.int .i64 d, .slice none 0 0] 54)))
  have hsz : (((w.alloc (.cells #[.int .i64 d, .slice a zs.length c] 89)).alloc (.cells #[.int .i64 0, .slice none 0 0] 54)).alloc (.cells #[.int .i64 d, .slice none 0 0] 54)).heap.size = w.heap.size + 3 := by simp
  have h1 : (w.alloc (.cells #[.int .i64 d, .slice a zs.length c] 89)).heap.size = w.heap.size + 1 := by simp
  have h2 : ((w.alloc (.cells #[.int .i64 d, .slice a zs.length c] 89)).alloc (.cells #[.int .i64 0, .slice none 0 0] 54)).heap.size = w.heap.size + 1 + 1 := by simp
  rw [h1] at X1
  rw [h2] at X2
  clear h1 h2
  generalize ((w.alloc (.cells #[.int .i64 d, .slice a zs.length c] 89)).alloc (.cells #[.int .i64 0, .slice none 0 0] 54)).alloc (.cells #[.int .i64 d, .slice none 0 0] 54) = W at *
  have HZ := hide hsz
  clear hsz
  refine (toByteS_own a c zs _ (HR.out.below B0.out) hl).mono ?_
  rintro e w1 ⟨g, rfl, hg, ho, b1⟩
  obtain ⟨⟨q0, q1⟩, q2, q3⟩ := X1.out.below b1
  obtain ⟨⟨r0, r1⟩, r2, r3⟩ := X2.out.below b1
  have hg2 : w.heap.size + 3 ≤ g := by have := HZ.out; omega
  have HO := hide ho
  have HB := hide (below_next B0.out b1)
  clear ho b1 X1 X2 B0 hg
  go_wp2_with fail
  have hk : Kept (fun b => b = w.heap.size + 1 ∨ b = w.heap.size + 1 + 1) w1 (((w1.setCell ⟨w.heap.size + 1 + 1, 1, none⟩ (.slice (some ⟨g, 0, none⟩) zs.length zs.length)).setCell ⟨w.heap.size + 1, 0, none⟩ (.int .i64 d)).setCell ⟨w.heap.size + 1, 1, none⟩ (.slice (some ⟨g, 0, none⟩) zs.length zs.length)) :=
    Kept.setCell (p := ⟨w.heap.size + 1, 1, none⟩) (Kept.setCell (p := ⟨w.heap.size + 1, 0, none⟩) (Kept.setCell (p := ⟨w.heap.size + 1 + 1, 1, none⟩) (Kept.refl _ _) (fun _ => .inr rfl) _) (fun _ => .inl rfl) _) (fun _ => .inl rfl) _
  refine bodyPost_ret (v := .agg #[.int .i64 d, .slice (some ⟨g, 0, none⟩) zs.length zs.length]) (by simp [results, Try.results49, go_sem, q0, q1]) rfl ⟨g, rfl, by omega, ?_, HB.out.trans (hk.below HB.out.size (fun k hk hS => by omega))⟩
  exact ownsRow_mono (ownsRow_kept HO.out hk (fun b hb hS => by simp only [Value.ownBlock, Option.some.injEq] at hb; omega)) (by have := HZ.out; omega)

set_option maxHeartbeats 400000 in
theorem eqChunk_same (d : Int) (a b : Option Addr) (ca cb : Nat) (zs : List Int) (w : World) (ha : Reads .u8 w a zs) (hb : Reads .u8 w b zs) (hl : zs.length ≤ 1048576) :
    Calls Try.prog 57 #[.agg #[.int .i64 d, .slice a zs.length ca], .agg #[.int .i64 d, .slice b zs.length cb]] w fun e w' => e = .returned (.bool true) ∧ Below w.heap.size w w' := by
  have HA := hide ha
  have HB := hide hb
  clear ha hb
  have B1 := hide (below_next (below_alloc w (.cells #[.int .i64 d, .slice a zs.length ca] 54)) (below_alloc _ (.cells #[.int .i64 d, .slice b zs.length cb] 54)))
  go_enter Try.func57, Try.ntmps57
  go_wp2_with fail
  refine (eqByteS_b a b ca cb zs _ (HA.out.below B1.out) (HB.out.below B1.out) hl).mono ?_
  rintro e w1 ⟨rfl, b1⟩
  have B2 := hide (below_next B1.out b1)
  clear b1 B1
  go_wp2_with fail
  go_ret
  exact ⟨rfl, B2.out⟩

set_option maxHeartbeats 800000 in
theorem eqChunkS_same (a b : Option Addr) (ca cb n : Nat) (D : Nat → Int) (P : Nat → List Int) (w : World) (ha : RdC w a D P n) (hb : RdC w b D P n) (hl : n ≤ 1048576) (hP : ∀ i, i < n → (P i).length ≤ 1048576) :
    Calls Try.prog 43 #[.slice a n ca, .slice b n cb] w fun e w' => e = .returned (.bool true) ∧ Below w.heap.size w w' := by
  have hne : ((n : Int) != (n : Int)) = false := by simp
  have HA := hide ha
  have HB := hide hb
  have HP := hide hP
  clear ha hb hP
  go_enter Try.func43, Try.ntmps43
  go_wp2
  go_loopw [5] (fun i wr => ∃ k : Nat, k ≤ n ∧ i = .int .i64 k ∧ Below w.heap.size w wr) (fun i _ => n - (intOf i).toNat)
  case atStart => exact ⟨0, Nat.zero_le _, rfl, Below.refl _ _⟩
  case round =>
    obtain ⟨k, hk, rfl, hbel⟩ := hrel
    have HW := hide hbel
    clear hbel
    by_cases hlt : k < n
    · obtain ⟨b1, o1, A1, C1, rfl, hb1, hc1⟩ := (HA.out.below HW.out) (by omega)
      obtain ⟨b2, o2, A2, C2, rfl, hb2, hc2⟩ := (HB.out.below HW.out) (by omega)
      obtain ⟨c1, e1, r1⟩ := hc1 k hlt
      obtain ⟨c2, e2, r2⟩ := hc2 k hlt
      have hp := HP.out k hlt
      generalize A1 k = a1 at e1 r1
      generalize A2 k = a2 at e2 r2
      generalize C1 k = d1 at e1
      generalize C2 k = d2 at e2
      generalize P k = xs at e1 r1 e2 r2 hp
      generalize D k = dd at c1 c2
      have R1 := hide r1
      have R2 := hide r2
      have f1 : ∀ u : InW (fun x => Below wr.heap.size wr x), u.val.cell? ⟨b1, o1 + k * 2, none⟩ = some (.int .i64 dd) := fun u => (u.ok.cell (p := ⟨b1, o1 + k * 2, none⟩) hb1).trans c1
      have f2 : ∀ u : InW (fun x => Below wr.heap.size wr x), u.val.cell? ⟨b1, o1 + k * 2 + 1, none⟩ = some (.slice a1 xs.length d1) := fun u => (u.ok.cell (p := ⟨b1, o1 + k * 2 + 1, none⟩) hb1).trans e1
      have f3 : ∀ u : InW (fun x => Below wr.heap.size wr x), u.val.cell? ⟨b2, o2 + k * 2, none⟩ = some (.int .i64 dd) := fun u => (u.ok.cell (p := ⟨b2, o2 + k * 2, none⟩) hb2).trans c2
      have f4 : ∀ u : InW (fun x => Below wr.heap.size wr x), u.val.cell? ⟨b2, o2 + k * 2 + 1, none⟩ = some (.slice a2 xs.length d2) := fun u => (u.ok.cell (p := ⟨b2, o2 + k * 2 + 1, none⟩) hb2).trans e2
      have hne2 : Nonempty (InW (fun x => Below wr.heap.size wr x)) := ⟨⟨wr, Below.refl _ _⟩⟩
      clear hc1 hc2 r1 r2 c1 c2 e1 e2
      go_wp2
      refine wp_region_inv (Inv := fun x => Below wr.heap.size wr x) (by kernel_rfl) (by kernel_rfl) (Below.refl _ _).drew ?_
      repeat (first | go_big_quiet_step ((go_at_call 57; exact calls_inv ((eqChunk_same _ _ _ _ _ xs _ (R1.out.below (InW.ok _)) (R2.out.below (InW.ok _)) hp).mono (fun e w' ⟨he, hb⟩ => ⟨he, below_next (InW.ok _) hb⟩)))) | quiet_step (fail))
      refine wpQuiet_nil ?_
      intro _ hw'
      obtain ⟨u, hw''⟩ := hw'
      subst hw''
      have B7 := hide (below_next HW.out u.ok)
      clear f1 f2 f3 f4 R1 R2
      go_wp2
      go_roundw
      case rel => exact ⟨k + 1, by omega, by go_num, B7.out⟩
      case measure => simp [intOf]; omega
    · go_wp2
      go_ret
      exact ⟨rfl, HW.out⟩

set_option maxHeartbeats 400000 in
theorem szByteS_fits (a : Option Addr) (n c : Nat) (left : Int) (w : World) (h0 : left ≤ 1048576) (hn : (n : Int) ≤ left) :
    Calls Try.prog 27 #[.slice a n c, .int .i64 left] w fun e w' => e = .returned (.int .i64 (left - n)) ∧ w' = w := by
  have hb : ¬ (left - (n : Int)) < 0 := by omega
  go_enter Try.func27, Try.ntmps27
  go_wp2
  go_ret
  exact ⟨rfl, rfl⟩
set_option maxHeartbeats 400000 in
theorem szByteS_not (a : Option Addr) (n c : Nat) (left : Int) (w : World) (h0 : 0 ≤ left) (hl : left ≤ 1048576) (hm : (n : Int) ≤ 9223372036854775807) (hn : left < (n : Int)) :
    Calls Try.prog 27 #[.slice a n c, .int .i64 left] w fun e w' => e = .returned (.int .i64 (-1)) ∧ w' = w := by
  have hb : (left - (n : Int)) < 0 := by omega
  go_enter Try.func27, Try.ntmps27
  go_wp2
  go_ret
  exact ⟨rfl, rfl⟩

set_option maxHeartbeats 400000 in
theorem szChunk_fits (d : Int) (a : Option Addr) (n c : Nat) (left : Int) (w : World) (h0 : left ≤ 1048576) (hn : (n : Int) ≤ left) :
    Calls Try.prog 46 #[.agg #[.int .i64 d, .slice a n c], .int .i64 left] w fun e w' => e = .returned (.int .i64 (left - n)) ∧ Below w.heap.size w w' := by
  have hb : ¬ (left - (n : Int)) < 0 := by omega
  go_enter Try.func46, Try.ntmps46
  go_wp2_with fail
  refine (szByteS_fits a n c left _ h0 hn).mono ?_
  rintro e w1 ⟨rfl, rfl⟩
  go_wp2_with fail
  go_ret
  exact ⟨rfl, below_alloc _ _⟩
set_option maxHeartbeats 400000 in
theorem szChunk_not (d : Int) (a : Option Addr) (n c : Nat) (left : Int) (w : World) (h0 : 0 ≤ left) (hl : left ≤ 1048576) (hm : (n : Int) ≤ 9223372036854775807) (hn : left < (n : Int)) :
    Calls Try.prog 46 #[.agg #[.int .i64 d, .slice a n c], .int .i64 left] w fun e w' => e = .returned (.int .i64 (-1)) ∧ Below w.heap.size w w' := by
  go_enter Try.func46, Try.ntmps46
  go_wp2_with fail
  refine (szByteS_not a n c left _ h0 hl hm hn).mono ?_
  rintro e w1 ⟨rfl, rfl⟩
  go_wp2_with fail
  go_ret
  exact ⟨rfl, below_alloc _ _⟩

set_option maxHeartbeats 800000 in
theorem szChunkS_fits (a : Option Addr) (c n : Nat) (D : Nat → Int) (P : Nat → List Int) (left : Int) (w : World) (h : RdC w a D P n) (h0 : left ≤ 1048576) (hn : (n : Int) + (ahead P n : Int) ≤ left) :
    Calls Try.prog 26 #[.slice a n c, .int .i64 left] w fun e w' => e = .returned (.int .i64 (left - n - ahead P n)) ∧ Below w.heap.size w w' := by
  have hb : ¬ (left - (n : Int)) < 0 := by omega
  have HA := hide h
  clear h
  go_enter Try.func26, Try.ntmps26
  go_wp2
  go_loopw [1, 5] (fun q i wr => ∃ k : Nat, k ≤ n ∧ i = .int .i64 k ∧ q = .int .i64 (left - n - ahead P k) ∧ Below w.heap.size w wr) (fun _ i _ => n - (intOf i).toNat)
  case atStart => exact ⟨0, Nat.zero_le _, rfl, by simp [ahead], Below.refl _ _⟩
  case round =>
    obtain ⟨k, hk, rfl, rfl, hbel⟩ := hrel
    have HW := hide hbel
    clear hbel
    by_cases hlt : k < n
    · obtain ⟨b1, o1, A1, C1, rfl, hb1, hc1⟩ := (HA.out.below HW.out) (by omega)
      obtain ⟨c1, e1, r1⟩ := hc1 k hlt
      have hle := ahead_le P (i := k + 1) (j := n) (by omega)
      simp only [ahead] at hle
      have hs : ahead P (k + 1) = ahead P k + (P k).length := rfl
      have HSu := hide hs
      clear hs
      generalize A1 k = a1 at e1 r1
      generalize C1 k = d1 at e1
      generalize (P k).length = pl at *
      generalize D k = dd at c1
      have hb2 : ¬ (left - (n : Int) - (ahead P k : Int) - (pl : Int)) < 0 := by omega
      clear hc1 r1
      go_wp2_with (go_at_call 46; refine (szChunk_fits dd a1 pl d1 _ _ (by omega) (by omega)).mono ?_; rintro e w1 ⟨rfl, b1'⟩; have HB1 := hide b1'; clear b1')
      go_roundw
      case rel => exact ⟨k + 1, by omega, by go_num, by rw [HSu.out]; go_num, below_next HW.out HB1.out⟩
      case measure => simp [intOf]; omega
    · have hke : k = n := by omega
      subst hke
      go_wp2
      go_ret
      exact ⟨rfl, HW.out⟩

set_option maxHeartbeats 800000 in
theorem szChunkS_not (a : Option Addr) (c n : Nat) (D : Nat → Int) (P : Nat → List Int) (left : Int) (w : World) (h : RdC w a D P n) (h00 : 0 ≤ left) (h0 : left ≤ 1048576) (hm : (n : Int) ≤ 9223372036854775807) (hmP : ∀ i, i < n → ((P i).length : Int) ≤ 9223372036854775807) (hn : left < (n : Int) + (ahead P n : Int)) :
    Calls Try.prog 26 #[.slice a n c, .int .i64 left] w fun e w' => e = .returned (.int .i64 (-1)) ∧ Below w.heap.size w w' := by
  by_cases hsm : left < (n : Int)
  · have hb : (left - (n : Int)) < 0 := by omega
    clear h
    go_enter Try.func26, Try.ntmps26
    go_wp2
    go_ret
    exact ⟨rfl, Below.refl _ _⟩
  · have hb : ¬ (left - (n : Int)) < 0 := by omega
    have HA := hide h
    have HM := hide hmP
    clear h hmP
    go_enter Try.func26, Try.ntmps26
    go_wp2
    go_loopw [1, 5] (fun q i wr => ∃ k : Nat, k ≤ n ∧ i = .int .i64 k ∧ q = .int .i64 (left - n - ahead P k) ∧ (n : Int) + (ahead P k : Int) ≤ left ∧ Below w.heap.size w wr) (fun _ i _ => n - (intOf i).toNat)
    case atStart => exact ⟨0, Nat.zero_le _, rfl, by simp [ahead], by simp [ahead]; omega, Below.refl _ _⟩
    case round =>
      obtain ⟨k, hk, rfl, rfl, hfit, hbel⟩ := hrel
      have HW := hide hbel
      clear hbel
      have hlt : k < n := by
        rcases Nat.lt_or_ge k n with h1 | h1
        · exact h1
        · have : k = n := by omega
          subst this
          omega
      obtain ⟨b1, o1, A1, C1, rfl, hb1, hc1⟩ := (HA.out.below HW.out) (by omega)
      obtain ⟨c1, e1, r1⟩ := hc1 k hlt
      have hs : ahead P (k + 1) = ahead P k + (P k).length := rfl
      have hmk := HM.out k hlt
      have HSu := hide hs
      clear hs
      generalize A1 k = a1 at e1 r1
      generalize C1 k = d1 at e1
      generalize (P k).length = pl at *
      generalize D k = dd at c1
      clear hc1 r1
      by_cases hf : (n : Int) + (ahead P k : Int) + (pl : Int) ≤ left
      · have hb2 : ¬ (left - (n : Int) - (ahead P k : Int) - (pl : Int)) < 0 := by omega
        go_wp2_with (go_at_call 46; refine (szChunk_fits dd a1 pl d1 _ _ (by omega) (by omega)).mono ?_; rintro e w1 ⟨rfl, b1'⟩; have HB1 := hide b1'; clear b1')
        go_roundw
        case rel => exact ⟨k + 1, by omega, by go_num, by rw [HSu.out]; go_num, by rw [HSu.out]; omega, below_next HW.out HB1.out⟩
        case measure => simp [intOf]; omega
      · go_wp2_with (go_at_call 46; refine (szChunk_not dd a1 pl d1 _ _ (by omega) (by omega) (by omega) (by omega)).mono ?_; rintro e w1 ⟨rfl, b1'⟩; have HB1 := hide b1'; clear b1')
        go_ret
        exact ⟨rfl, below_next HW.out HB1.out⟩

def laid (j : Nat) (D : Nat → Int) (P : Nat → List Int) (A : Nat → Nat) (i : Nat) : List Value :=
  if i < j then [.int .i64 (D i), .slice (some ⟨A i, 0, none⟩) (P i).length (P i).length] else [.int .i64 0, .slice none 0 0]
theorem laid_length (j : Nat) (D : Nat → Int) (P : Nat → List Int) (A : Nat → Nat) (i : Nat) : (laid j D P A i).length = 2 := by
  unfold laid; split <;> rfl
theorem laid_zero (n : Nat) (D : Nat → Int) (P : Nat → List Int) (A : Nat → Nat) : (madeCells #[Value.int .i64 0, .slice none 0 0] (n * 2)).toList = flat n (laid 0 D P A) := by
  have hl := flat_length (n := n) (k := 2) (F := laid 0 D P A) (fun i _ => laid_length _ _ _ _ _)
  apply List.ext_getElem?
  intro p
  by_cases hp : p < n * 2
  · have e : p = p / 2 * 2 + p % 2 := by omega
    have h1 : p / 2 < n := by omega
    have h2 : p % 2 < 2 := by omega
    rw [e, flat_get (fun i _ => laid_length _ _ _ _ _) _ _ h1 h2]
    rw [← e]
    have hm : p % 2 = 0 ∨ p % 2 = 1 := by omega
    rcases hm with hm | hm <;> simp [madeCells, hp, hm, laid]
  · rw [List.getElem?_eq_none (by simp [madeCells]; omega), List.getElem?_eq_none (by omega)]

theorem laid_step {n k : Nat} {D : Nat → Int} {P : Nat → List Int} {A : Nat → Nat} {g : Nat} (hk : k < n) :
    ((flat n (laid k D P A)).set (k * 2) (.int .i64 (D k))).set (k * 2 + 1) (.slice (some ⟨g, 0, none⟩) (P k).length (P k).length) = flat n (laid (k + 1) D P (fun i => if i = k then g else A i)) := by
  have e := flat_set (n := n) (k := 2) (F := laid k D P A) (fun i _ => laid_length _ _ _ _ _) k 0 hk (by decide) (.int .i64 (D k))
  rw [Nat.add_zero] at e
  rw [e, flat_set (k := 2) (fun i _ => by by_cases h : i = k <;> simp [h, laid_length]) k 1 hk (by decide)]
  apply flat_congr
  intro i hi
  by_cases h : i = k
  · subst h
    simp [laid]
  · by_cases h2 : i < k
    · have h3 : i < k + 1 := by omega
      simp [h, laid, h2, h3]
    · have h3 : ¬ i < k + 1 := by omega
      simp [h, laid, h2, h3]

def ToC (B : Nat) (w : World) (v : Value) (D : Nat → Int) (P : Nat → List Int) (n k : Nat) : Prop :=
  ∃ A : Nat → Nat, w.ownsRow B 54 2 v n (flat n (laid k D P A)) ∧
    (∀ i, i < k → w.ownsRow B 5 1 (.slice (some ⟨A i, 0, none⟩) (P i).length (P i).length) (P i).length ((P i).map (Value.int .u8))) ∧
    ∀ i i', i < k → i' < k → A i = A i' → i = i'

theorem ToC.step {B : Nat} {w w1 : World} {G n k g : Nat} {D : Nat → Int} {P : Nat → List Int} (h : ToC B w (.slice (some ⟨G, 0, none⟩) n n) D P n k) (hk : k < n) (hB : B ≤ w.heap.size) (hbel : Below w.heap.size w w1)
    (hown : w1.ownsRow w.heap.size 5 1 (.slice (some ⟨g, 0, none⟩) (P k).length (P k).length) (P k).length ((P k).map (Value.int .u8))) (hg : w.heap.size ≤ g) :
    ToC B ((w1.setCell ⟨G, k * 2, none⟩ (.int .i64 (D k))).setCell ⟨G, k * 2 + 1, none⟩ (.slice (some ⟨g, 0, none⟩) (P k).length (P k).length)) (.slice (some ⟨G, 0, none⟩) n n) D P n (k + 1) := by
  obtain ⟨A, h1, h2, h3⟩ := h
  have hA : ∀ i, i < k → A i < w.heap.size := fun i hi => ((h2 i hi).lt (A i) rfl).2
  have k1 := ownsRow_below h1 hbel
  have hkp : Kept (fun b => b = G) w1 ((w1.setCell ⟨G, k * 2, none⟩ (.int .i64 (D k))).setCell ⟨G, k * 2 + 1, none⟩ (.slice (some ⟨g, 0, none⟩) (P k).length (P k).length)) := Kept.two _ _ _ _ _ _
  refine ⟨fun i => if i = k then g else A i, ?_, ?_, ?_⟩
  · have := ((k1.stored (k * 2) (.int .i64 (D k))).1.stored (k * 2 + 1) (.slice (some ⟨g, 0, none⟩) (P k).length (P k).length)).1
    rwa [laid_step hk] at this
  · intro i hi
    by_cases e : i = k
    · subst e
      simp only [if_true]
      exact ownsRow_kept (ownsRow_mono hown hB) hkp (fun b hb hS => ownsRow_apart k1 hown (by decide) (by subst hS; rfl) hb)
    · simp only [if_neg e]
      have k2 := ownsRow_below (h2 i (by omega)) hbel
      exact ownsRow_kept k2 hkp (fun b hb hS => ownsRow_apart k1 k2 (by decide) (by subst hS; rfl) hb)
  · intro i i' hi hi' he
    by_cases e : i = k
    · by_cases e' : i' = k
      · omega
      · simp only [if_pos e, if_neg e'] at he
        have := hA i' (by omega)
        omega
    · by_cases e' : i' = k
      · simp only [if_neg e, if_pos e'] at he
        have := hA i (by omega)
        omega
      · simp only [if_neg e, if_neg e'] at he
        exact h3 i i' (by omega) (by omega) he

theorem ToC.gc {B : Nat} {w : World} {v : Value} {D : Nat → Int} {P : Nat → List Int} {n : Nat} (h : ToC B w v D P n n) : GC B w.heap.size w v D P n := by
  obtain ⟨A, h1, h2, h3⟩ := h
  refine ⟨fun i => some ⟨A i, 0, none⟩, fun i => (P i).length, ?_, h2, ?_, ?_, fun b hb => (h1.lt b hb).2⟩
  · have e : flat n (chCells D P (fun i => some ⟨A i, 0, none⟩) (fun i => (P i).length)) = flat n (laid n D P A) := flat_congr (fun i hi => by simp [laid, chCells, hi])
    rw [e]; exact h1
  · intro i i' g hi hi' e1 e2
    simp only [Option.map_some, Option.some.injEq] at e1 e2
    exact h3 i i' hi hi' (by omega)
  · intro i g hi e
    simp only [Option.map_some, Option.some.injEq] at e
    have := ((h2 i hi).lt (A i) rfl).2
    omega

set_option maxHeartbeats 1600000 in
theorem toChunkS_any (a : Option Addr) (c n : Nat) (D : Nat → Int) (P : Nat → List Int) (w : World) (h : RdC w a D P n) (hn : n ≤ 1048576) (hP : ∀ i, i < n → (P i).length ≤ 1048576) :
    Calls Try.prog 32 #[.slice a n c] w fun e w' => ∃ G, e = .returned (.slice (some ⟨G, 0, none⟩) n n) ∧ w.heap.size ≤ G ∧ GC w.heap.size w'.heap.size w' (.slice (some ⟨G, 0, none⟩) n n) D P n ∧ Below w.heap.size w w' := by
  obtain ⟨i1, ki, kz0, kz1, kz2⟩ := info_parts Try.infoCh
  have HA := hide h
  have HP := hide hP
  clear h hP
  have hby : i1.bytes * n ≤ 281474976710656 := by rw [kz2]; omega
  have hml : n ≤ maxLen := by unfold maxLen; omega
  go_enter Try.func32, Try.ntmps32
  go_wp2_with (at_make; refine wpList_make_full _ rfl (.tmp 6) (.tmp 6) 37 rfl w.heap.size 54 i1 (.agg #[.int .i64 0, .slice none 0 0]) 2 Try.underlying37 ki kz0 kz1 .i64 .i64 _ _ n rfl rfl rfl rfl hby hml (Nat.le_refl _) ?_; intro w1 ho1 hg1; have HO1 := hide ho1; have HG1 := hide hg1; clear ho1 hg1)
  have hz : madeCells (Value.agg #[.int .i64 0, .slice none 0 0]).cells (n * 2) = madeCells #[.int .i64 0, .slice none 0 0] (n * 2) := rfl
  have T1 : Hid (ToC w.heap.size w1 (.slice (some ⟨w.heap.size, 0, none⟩) n n) D P n 0) := by
    refine ⟨fun _ => 0, ?_, fun i hi => absurd hi (by omega), fun i i' hi => absurd hi (by omega)⟩
    rw [← laid_zero n D P (fun _ => 0)]
    exact HO1.out
  have B1 : Hid (Below w.heap.size w w1) := (Below.refl _ _).grown HG1.out (Nat.le_refl _) (fun k hk => by simp at hk)
  clear hz HO1 HG1
  go_loopw [4] (fun i wr => ∃ k : Nat, k ≤ n ∧ i = .int .i64 k ∧ ToC w.heap.size wr (.slice (some ⟨w.heap.size, 0, none⟩) n n) D P n k ∧ Below w.heap.size w wr) (fun i _ => n - (intOf i).toNat)
  case atStart => exact ⟨0, Nat.zero_le _, rfl, T1.out, B1.out⟩
  case round =>
    obtain ⟨k, hk, rfl, hT, hbel⟩ := hrel
    have HT := hide hT
    have HW := hide hbel
    have hsz := hbel.size
    clear hT hbel T1 B1
    by_cases hlt : k < n
    · obtain ⟨b1, o1, A1, C1, rfl, hb1, hc1⟩ := (HA.out.below HW.out) (by omega)
      obtain ⟨c1, e1, r1⟩ := hc1 k hlt
      have hp := HP.out k hlt
      generalize A1 k = a1 at e1 r1
      generalize C1 k = d1 at e1
      have R1 := hide r1
      clear hc1 r1
      have HST := hide (fun (w1 : World) (g : Nat) => HT.out.step (w1 := w1) (g := g) hlt hsz)
      obtain ⟨AA, q1, q2, q3⟩ := HT.out
      have hf := flat_get (n := n) (k := 2) (F := laid k D P AA) (fun i _ => laid_length _ _ _ _ _) k
      have Q1 := hide q1
      have hz0 : (flat n (laid k D P AA))[k * 2]? = some (.int .i64 0) := by
        have := hf 0 hlt (by decide)
        rw [Nat.add_zero] at this
        rw [this]; simp [laid]
      have hz1 : (flat n (laid k D P AA))[k * 2 + 1]? = some (.slice none 0 0) := by
        rw [hf 1 hlt (by decide)]; simp [laid]
      have Z0 := hide hz0
      have Z1 := hide hz1
      clear hf q1 q2 q3 hz0 hz1
      generalize hxs : P k = xs at *
      generalize hdd : D k = dd at *
      have HX := hide (And.intro hxs hdd)
      clear hxs hdd
      go_wp2_with (go_at_call 49; refine (toChunk_any dd a1 d1 xs _ R1.out hp).mono ?_; rintro e w2 ⟨g, rfl, hg, ho, hb⟩; have k1 := ownsRow_below Q1.out hb; have m0 : w2.cell? ⟨w.heap.size, k * 2, none⟩ = some (.int .i64 0) := (k1.cellAt (k * 2) (by omega)).trans Z0.out; have m1 : w2.cell? ⟨w.heap.size, k * 2 + 1, none⟩ = some (.slice none 0 0) := (k1.cellAt (k * 2 + 1) (by omega)).trans Z1.out; have m2 := k1.frozenAt (k * 2); have m3 := k1.frozenAt (k * 2 + 1); have HO2 := hide ho; have HB2 := hide hb; clear ho hb k1)
      go_roundw
      case rel => exact ⟨k + 1, by omega, by go_num, HST.out w2 g HB2.out HO2.out hg, ((below_next HW.out HB2.out).setCell (Nat.le_refl _) _).setCell (Nat.le_refl _) _⟩
      case measure => simp [intOf]; omega
    · have hke : k = n := by omega
      subst hke
      go_wp2
      go_ret
      exact ⟨_, rfl, Nat.le_refl _, HT.out.gc, HW.out⟩

end Go.Proofs.Ytfamojijgjmcmaa

namespace Go.Proofs.Ytfamojijgjmcmaa
open Go.RowKit
set_option linter.unusedVariables false

theorem chCells_length (D : Nat → Int) (P : Nat → List Int) (A : Nat → Option Addr) (C : Nat → Nat) (i : Nat) : (chCells D P A C i).length = 2 := rfl

theorem reads_owned {w : World} {B : Nat} {e : TypeId} {k : IntKind} {a : Option Addr} {n c : Nat} {zs : List Int} (h : w.ownsRow B e 1 (.slice a n c) n (zs.map (Value.int k))) (hn : n = zs.length) : Reads k w a zs := by
  intro hz
  have h0 : 0 < n := by rw [hn]; exact List.length_pos_iff.2 hz
  obtain ⟨g, cap, hv, hg, hgl, hc, hf⟩ := ownsRow_ints h hn h0
  simp only [Value.slice.injEq, true_and] at hv
  exact ⟨g, 0, hv.1, hgl, fun i hi => by rw [Nat.zero_add]; exact hc i (by omega)⟩

theorem GC.rd {B T : Nat} {w : World} {a : Option Addr} {c : Nat} {D : Nat → Int} {P : Nat → List Int} {n : Nat} (h : GC B T w (.slice a n c) D P n) : RdC w a D P n := by
  intro hn
  obtain ⟨A, C, h1, h2, h3, h4, h5⟩ := h
  rcases h1.2 with ⟨_, h0⟩ | ⟨g, cap, cur, h', hb, hh, hnc, hcm, hcs, htake⟩
  · omega
  · simp only [Value.slice.injEq, true_and] at h'
    obtain ⟨rfl, rfl⟩ := h'
    have hf := fun i r hi hr => flat_get (n := n) (k := 2) (F := chCells D P A C) (fun i _ => chCells_length _ _ _ _ _) i r hi hr
    refine ⟨g, 0, A, C, rfl, (h1.lt g rfl).2, fun i hi => ⟨?_, ?_, reads_owned (h2 i hi) rfl⟩⟩
    · rw [Nat.zero_add, h1.cellAt (i * 2) (by omega)]
      have := hf i 0 hi (by decide)
      rw [Nat.add_zero] at this
      rw [this]; rfl
    · rw [Nat.zero_add, h1.cellAt (i * 2 + 1) (by omega), hf i 1 hi (by decide)]; rfl

theorem GC.kept {S : Nat → Prop} {B T : Nat} {w w' : World} {v : Value} {D : Nat → Int} {P : Nat → List Int} {n : Nat} (h : GC B T w v D P n) (hk : Kept S w w') (hS : ∀ b, B ≤ b → b < T → ¬ S b) : GC B T w' v D P n := by
  obtain ⟨A, C, h1, h2, h3, h4, h5⟩ := h
  refine ⟨A, C, ownsRow_kept h1 hk (fun b hb => hS b (h1.lt b hb).1 (h5 b hb)), fun i hi => ownsRow_kept (h2 i hi) hk (fun b hb => hS b ((h2 i hi).lt b hb).1 (h4 i b hi ?_)), h3, h4, h5⟩
  cases hA : A i with
  | none => rw [hA] at hb; simp [Value.ownBlock] at hb
  | some x => rw [hA] at hb; simpa [Value.ownBlock] using hb
theorem GC.mono {B B' T : Nat} {w : World} {v : Value} {D : Nat → Int} {P : Nat → List Int} {n : Nat} (h : GC B T w v D P n) (hB : B' ≤ B) : GC B' T w v D P n := by
  obtain ⟨A, C, h1, h2, h3, h4, h5⟩ := h
  exact ⟨A, C, ownsRow_mono h1 hB, fun i hi => ownsRow_mono (h2 i hi) hB, h3, h4, h5⟩
end Go.Proofs.Ytfamojijgjmcmaa

namespace Go.Proofs.Ytfamojijgjmcmaa
open Go.ChangeShapes Go.WideShapes Go.ChangeAt Go.RowKit
set_option linter.unusedVariables false

theorem bytes_of_trod {H : Type} {enc : TypeId × Value → H} {W : World} {a : Option Addr} {n c fuel : Nat} {x : DataW H × List MemPlace}
    (h : DataW.trod enc Try.prog W 0 (fun _ => true) true fuel 28 [.slice a n c] = some x) : ∃ zs : List Int, zs.length = n ∧ Reads .u8 W a zs ∧ U8 zs ∧ zs.length ≤ maxLen := by
  rcases open_ints Try.underlying28 Try.underlying5 (by kernel_rfl) h with ⟨hcs, _⟩ | ⟨x, l, c, zs, hcs, _, hl, hm, hz, _, hcell, hwz⟩
  · simp at hcs
    obtain ⟨rfl, rfl, rfl⟩ := hcs
    exact ⟨[], rfl, fun h => absurd rfl h, fun z hz => by simp at hz, Nat.zero_le _⟩
  · simp at hcs
    obtain ⟨rfl, rfl, rfl⟩ := hcs
    exact reads_of_row (by simpa using hz) hl hm hcell hwz

theorem reads_of_row64 {W : World} {x : Addr} {l c : Nat} {zs : List Int} (hz : zs.length = c) (hl : l ≤ c) (hm : c ≤ maxLen) (hcell : ∀ i, i < zs.length → W.cell? (x.add i) = some (.int .i64 (zs.getD i 0))) (hwz : ∀ n ∈ zs, (Lit.int .i64 n).wf = true) :
    ∃ ys : List Int, ys.length = l ∧ Reads .i64 W (some x) ys ∧ (∀ z ∈ ys, (Lit.int .i64 z).wf = true) ∧ ys.length ≤ maxLen := by
  have hlen : (zs.take l).length = l := by simp; omega
  refine ⟨zs.take l, hlen, ?_, fun z hz' => hwz z (List.mem_of_mem_take hz'), by omega⟩
  intro hne
  have h0 : 0 < l := by
    rcases Nat.eq_zero_or_pos l with h | h
    · subst h; exact absurd rfl hne
    · exact h
  obtain ⟨b, off, spot⟩ := x
  have hc := hcell 0 (by omega)
  have hspot : spot = none := by simpa [Addr.add] using World.cell?_spot hc
  subst hspot
  refine ⟨b, off, rfl, World.block_lt_of_cell? W _ (by simpa [Addr.add] using hc), fun i hi => ?_⟩
  have := hcell i (by omega)
  have e : (zs.take l).getD i 0 = zs.getD i 0 := by
    have h2 : i < l := by omega
    simp [List.getD_eq_getElem?_getD, h2]
  rw [e]
  have ea : (⟨b, off, none⟩ : Addr).add i = ⟨b, off + i, none⟩ := by unfold Addr.add; split <;> simp_all
  rw [ea] at this
  exact this

theorem ints_of_trod {H : Type} {enc : TypeId × Value → H} {W : World} {a : Option Addr} {n c fuel : Nat} {x : DataW H × List MemPlace}
    (h : DataW.trod enc Try.prog W 0 (fun _ => true) true fuel 24 [.slice a n c] = some x) : ∃ zs : List Int, zs.length = n ∧ Reads .i64 W a zs ∧ (∀ z ∈ zs, (Lit.int .i64 z).wf = true) ∧ zs.length ≤ maxLen := by
  rcases open_ints Try.underlying24 Try.underlying2 (by kernel_rfl) h with ⟨hcs, _⟩ | ⟨x, l, c, zs, hcs, _, hl, hm, hz, _, hcell, hwz⟩
  · simp at hcs
    obtain ⟨rfl, rfl, rfl⟩ := hcs
    exact ⟨[], rfl, fun h => absurd rfl h, fun z hz => by simp at hz, Nat.zero_le _⟩
  · simp at hcs
    obtain ⟨rfl, rfl, rfl⟩ := hcs
    exact reads_of_row64 (by simpa using hz) hl hm hcell hwz

theorem rdC_of_trod {H : Type} {enc : TypeId × Value → H} {W : World} {a : Option Addr} {n c fuel : Nat} {x : DataW H × List MemPlace}
    (h : DataW.trod enc Try.prog W 0 (fun _ => true) true fuel 25 [.slice a n c] = some x) :
    ∃ (D : Nat → Int) (P : Nat → List Int), RdC W a D P n ∧ n ≤ maxLen ∧ ∀ i, i < n → (Lit.int .i64 (D i)).wf = true ∧ U8 (P i) ∧ (P i).length ≤ maxLen := by
  rcases Deep.open_slice_pairs Try.underlying25 Try.underlying89 (by kernel_rfl) rfl rfl (by kernel_rfl) (by kernel_rfl) h with ⟨hcs, _⟩ | ⟨x, l, cp, m, fu, V0, V1, D0, D1, P0, P1, hcs, _, hl, hm, hmm, _, hx⟩
  · simp at hcs
    obtain ⟨rfl, rfl, rfl⟩ := hcs
    exact ⟨fun _ => 0, fun _ => [], fun h => absurd h (by omega), Nat.zero_le _, fun i hi => absurd hi (by omega)⟩
  · simp at hcs
    obtain ⟨rfl, rfl, rfl⟩ := hcs
    simp only [if_true] at hmm
    subst hmm
    have each : ∀ i, i < n → ∃ q : Int × List Int × Option Addr × Nat, V0 i = .int .i64 q.1 ∧ V1 i = .slice q.2.2.1 q.2.1.length q.2.2.2 ∧ Reads .u8 W q.2.2.1 q.2.1 ∧ (Lit.int .i64 q.1).wf = true ∧ U8 q.2.1 ∧ q.2.1.length ≤ maxLen := by
      intro i hi
      obtain ⟨c0, c1, t0, t1⟩ := hx i (by omega)
      obtain ⟨z, hz, _, hw⟩ := DataW.trod_int Try.underlying2 t0
      obtain ⟨a1, n1, k1, e1⟩ : ∃ a1 n1 k1, V1 i = .slice a1 n1 k1 := by
        rcases open_ints Try.underlying28 Try.underlying5 (by kernel_rfl) t1 with ⟨hcs, _⟩ | ⟨x, l, c, zs, hcs, _⟩
        · simp at hcs; exact ⟨_, _, _, hcs⟩
        · simp at hcs; exact ⟨_, _, _, hcs⟩
      rw [e1] at t1
      obtain ⟨zs, rfl, hr, hu, hml⟩ := bytes_of_trod t1
      simp at hz
      exact ⟨(z, zs, a1, k1), hz, e1, hr, hw, hu, hml⟩
    haveI : Inhabited (Int × List Int × Option Addr × Nat) := ⟨(0, [], none, 0)⟩
    obtain ⟨q, hq⟩ := Deep.choose_lt each
    refine ⟨fun i => (q i).1, fun i => (q i).2.1, ?_, by omega, fun i hi => (hq i hi).2.2.2⟩
    intro hn
    obtain ⟨b, off, spot⟩ := x
    have hc0 := (hx 0 (by omega)).1
    have hspot : spot = none := by simpa [Addr.add] using World.cell?_spot hc0
    subst hspot
    refine ⟨b, off, fun i => (q i).2.2.1, fun i => (q i).2.2.2, rfl, World.block_lt_of_cell? W _ (by simpa [Addr.add] using hc0), fun i hi => ?_⟩
    obtain ⟨c0, c1, _, _⟩ := hx i (by omega)
    obtain ⟨e0, e1, hr, _⟩ := hq i hi
    have ea : ∀ t, (⟨b, off, none⟩ : Addr).add t = ⟨b, off + t, none⟩ := fun t => by unfold Addr.add; split <;> simp_all
    rw [ea, e0] at c0
    rw [ea, e1] at c1
    exact ⟨c0, by rw [Nat.add_assoc]; exact c1, hr⟩

end Go.Proofs.Ytfamojijgjmcmaa

namespace Go.Proofs.Ytfamojijgjmcmaa
open Go.ChangeShapes Go.WideShapes Go.ChangeAt Go.RowKit Go.Maps
set_option linter.unusedVariables false
structure Sn where
  name : Bs
  parent : Bs
  kind : Int
  lease : Bool
  layer : List En
def RdS (w : World) (a : Option Addr) (l : List Sn) : Prop :=
  l ≠ [] → ∃ (b off : Nat) (A : Nat → Option Addr) (C : Nat → Nat), a = some ⟨b, off, none⟩ ∧ b < w.heap.size ∧ ∀ i s, l[i]? = some s →
    w.cell? ⟨b, off + i * 5, none⟩ = some (.string (str s.name)) ∧ w.cell? ⟨b, off + i * 5 + 1, none⟩ = some (.string (str s.parent)) ∧ w.cell? ⟨b, off + i * 5 + 2, none⟩ = some (.int .i64 s.kind) ∧ w.cell? ⟨b, off + i * 5 + 3, none⟩ = some (.bool s.lease) ∧
    w.cell? ⟨b, off + i * 5 + 4, none⟩ = some (.slice (A i) s.layer.length (C i)) ∧ RdE w (A i) s.layer
theorem RdS.below {w w' : World} {a : Option Addr} {l : List Sn} (h : RdS w a l) (hk : Below w.heap.size w w') : RdS w' a l := by
  intro hz
  obtain ⟨b, off, A, C, e, hb, hc⟩ := h hz
  refine ⟨b, off, A, C, e, Nat.lt_of_lt_of_le hb hk.size, fun i x hx => ?_⟩
  obtain ⟨c0, c1, c2, c3, c4, r⟩ := hc i x hx
  exact ⟨(hk.cell (p := ⟨b, off + i * 5, none⟩) hb).trans c0, (hk.cell (p := ⟨b, off + i * 5 + 1, none⟩) hb).trans c1, (hk.cell (p := ⟨b, off + i * 5 + 2, none⟩) hb).trans c2, (hk.cell (p := ⟨b, off + i * 5 + 3, none⟩) hb).trans c3, (hk.cell (p := ⟨b, off + i * 5 + 4, none⟩) hb).trans c4, r.below hk⟩
theorem RdS.at {w : World} {a : Option Addr} {l : List Sn} (h : RdS w a l) {k : Nat} (hk : k < l.length) :
    ∃ b off s x c, a = some ⟨b, off, none⟩ ∧ b < w.heap.size ∧ l[k]? = some s ∧ w.cell? ⟨b, off + k * 5, none⟩ = some (.string (str s.name)) ∧ w.cell? ⟨b, off + k * 5 + 1, none⟩ = some (.string (str s.parent)) ∧ w.cell? ⟨b, off + k * 5 + 2, none⟩ = some (.int .i64 s.kind) ∧ w.cell? ⟨b, off + k * 5 + 3, none⟩ = some (.bool s.lease) ∧
      w.cell? ⟨b, off + k * 5 + 4, none⟩ = some (.slice x s.layer.length c) ∧ RdE w x s.layer := by
  obtain ⟨b, off, A, C, e, hb, hc⟩ := h (by intro e; simp [e] at hk)
  have hx : l[k]? = some l[k] := List.getElem?_eq_getElem hk
  obtain ⟨c0, c1, c2, c3, c4, r⟩ := hc k _ hx
  exact ⟨b, off, l[k], A k, C k, e, hb, hx, c0, c1, c2, c3, c4, r⟩
def SmallS (l : List Sn) : Prop := l.length ≤ 1048576 ∧ ∀ s ∈ l, s.name.length ≤ 1048576 ∧ s.parent.length ≤ 1048576 ∧ s.layer.length ≤ 1048576 ∧ SmallE s.layer
def Five (w : World) (b : Nat) (u0 u1 u2 u3 u4 : Value) : Prop := w.cell? ⟨b, 0, none⟩ = some u0 ∧ w.cell? ⟨b, 1, none⟩ = some u1 ∧ w.cell? ⟨b, 2, none⟩ = some u2 ∧ w.cell? ⟨b, 3, none⟩ = some u3 ∧ w.cell? ⟨b, 4, none⟩ = some u4
theorem Five.new (w : World) (u0 u1 u2 u3 u4 : Value) (t : TypeId) : Five (w.alloc (.cells #[u0, u1, u2, u3, u4] t)) w.heap.size u0 u1 u2 u3 u4 := ⟨by simp, by simp, by simp, by simp, by simp⟩
theorem Five.lt {w : World} {b : Nat} {u0 u1 u2 u3 u4 : Value} (h : Five w b u0 u1 u2 u3 u4) : b < w.heap.size := World.block_lt_of_cell? w ⟨b, 0, none⟩ h.1
theorem Five.below {w w' : World} {b : Nat} {u0 u1 u2 u3 u4 : Value} (h : Five w b u0 u1 u2 u3 u4) (hk : Below w.heap.size w w') : Five w' b u0 u1 u2 u3 u4 :=
  ⟨(hk.cell (p := ⟨b, 0, none⟩) h.lt).trans h.1, (hk.cell (p := ⟨b, 1, none⟩) h.lt).trans h.2.1, (hk.cell (p := ⟨b, 2, none⟩) h.lt).trans h.2.2.1, (hk.cell (p := ⟨b, 3, none⟩) h.lt).trans h.2.2.2.1, (hk.cell (p := ⟨b, 4, none⟩) h.lt).trans h.2.2.2.2⟩
def Box5 (w : World) (b : Nat) (u0 u1 u2 u3 u4 : Value) : Prop := Five w b u0 u1 u2 u3 u4 ∧ ∀ i, w.frozen? ⟨b, i, none⟩ = false
theorem Box5.new (w : World) (u0 u1 u2 u3 u4 : Value) (t : TypeId) : Box5 (w.alloc (.cells #[u0, u1, u2, u3, u4] t)) w.heap.size u0 u1 u2 u3 u4 := ⟨Five.new w u0 u1 u2 u3 u4 t, fun i => by simp⟩
theorem Box5.below {w w' : World} {b : Nat} {u0 u1 u2 u3 u4 : Value} (h : Box5 w b u0 u1 u2 u3 u4) (hk : Below w.heap.size w w') : Box5 w' b u0 u1 u2 u3 u4 :=
  ⟨h.1.below hk, fun i => (hk.frozen (p := ⟨b, i, none⟩) h.1.lt).trans (h.2 i)⟩
structure Rs where
  s : Sn
  a : Option Addr
  c : Nat
def cellsN (r : Rs) : List Value := [.string (str r.s.name), .string (str r.s.parent), .int .i64 r.s.kind, .bool r.s.lease, .slice r.a r.s.layer.length r.c]
def rowN (rs : List Rs) : List Value := rs.flatMap cellsN
theorem rowN_length : ∀ rs : List Rs, (rowN rs).length = rs.length * 5
  | [] => rfl
  | r :: rs => by
    have := rowN_length rs
    simp only [rowN, List.flatMap_cons, List.length_append, List.length_cons] at this ⊢
    rw [this]; simp [cellsN]; omega
theorem rowN_get : ∀ (rs : List Rs) (i q : Nat) (r : Rs), rs[i]? = some r → q < 5 → (rowN rs)[i * 5 + q]? = (cellsN r)[q]?
  | [], i, q, r, h, _ => by simp at h
  | x :: rs, 0, q, r, h, hq => by
    simp only [List.getElem?_cons_zero, Option.some.injEq] at h
    subst h
    simp only [rowN, List.flatMap_cons, Nat.zero_mul, Nat.zero_add]
    rw [List.getElem?_append_left (by simp [cellsN]; omega)]
  | x :: rs, i + 1, q, r, h, hq => by
    have := rowN_get rs i q r (by simpa using h) hq
    rw [← this]
    simp only [rowN, List.flatMap_cons]
    rw [List.getElem?_append_right (by simp [cellsN]; omega)]
    congr 1
    simp [cellsN]; omega
abbrev Wn := Int × Int
def RdW (w : World) (a : Option Addr) (W : List Wn) : Prop :=
  W ≠ [] → ∃ b off, a = some ⟨b, off, none⟩ ∧ b < w.heap.size ∧ ∀ i, i < W.length → w.cell? ⟨b, off + i * 2, none⟩ = some (.int .i64 (W.getD i (0, 0)).1) ∧ w.cell? ⟨b, off + i * 2 + 1, none⟩ = some (.int .i64 (W.getD i (0, 0)).2)
theorem RdW.kept {S : Nat → Prop} {w w' : World} {a : Option Addr} {W : List Wn} (h : RdW w a W) (hk : Kept S w w') (hn : W ≠ [] → ∀ x, a = some x → ¬ S x.block) : RdW w' a W := by
  intro hz
  obtain ⟨b, off, rfl, hb, hc⟩ := h hz
  have hS := hn hz ⟨b, off, none⟩ rfl
  exact ⟨b, off, rfl, Nat.lt_of_lt_of_le hb hk.size, fun i hi => ⟨(hk.cell (p := ⟨b, off + i * 2, none⟩) hb hS).trans (hc i hi).1, (hk.cell (p := ⟨b, off + i * 2 + 1, none⟩) hb hS).trans (hc i hi).2⟩⟩
theorem RdW.below {w w' : World} {a : Option Addr} {W : List Wn} (h : RdW w a W) (hk : Below w.heap.size w w') : RdW w' a W :=
  h.kept (S := fun _ => False) (Kept.of_below hk) (fun _ _ _ => id)
theorem Try.infoWn : (Try.prog.info? 52).map (fun i => (i.zero, i.size, i.bytes)) = some (some (.agg #[.int .i64 0, .int .i64 0]), 2, 16) := by kernel_rfl
def laidW (j : Nat) (W : List Wn) (i : Nat) : List Value := if i < j then [.int .i64 (W.getD i (0, 0)).1, .int .i64 (W.getD i (0, 0)).2] else [.int .i64 0, .int .i64 0]
theorem laidW_length (j : Nat) (W : List Wn) (i : Nat) : (laidW j W i).length = 2 := by unfold laidW; split <;> rfl
theorem laidW_zero (n : Nat) (W : List Wn) : (madeCells #[Value.int .i64 0, .int .i64 0] (n * 2)).toList = flat n (laidW 0 W) := by
  have hl := flat_length (n := n) (k := 2) (F := laidW 0 W) (fun i _ => laidW_length _ _ _)
  apply List.ext_getElem?
  intro p
  by_cases hp : p < n * 2
  · have e : p = p / 2 * 2 + p % 2 := by omega
    have h1 : p / 2 < n := by omega
    have h2 : p % 2 < 2 := by omega
    rw [e, flat_get (fun i _ => laidW_length _ _ _) _ _ h1 h2]
    rw [← e]
    have hm : p % 2 = 0 ∨ p % 2 = 1 := by omega
    rcases hm with hm | hm <;> simp [madeCells, hp, hm, laidW]
  · rw [List.getElem?_eq_none (by simp [madeCells]; omega), List.getElem?_eq_none (by omega)]
theorem laidW_step {n k : Nat} {W : List Wn} (hk : k < n) :
    ((flat n (laidW k W)).set (k * 2) (.int .i64 (W.getD k (0, 0)).1)).set (k * 2 + 1) (.int .i64 (W.getD k (0, 0)).2) = flat n (laidW (k + 1) W) := by
  have e := flat_set (n := n) (k := 2) (F := laidW k W) (fun i _ => laidW_length _ _ _) k 0 hk (by decide) (.int .i64 (W.getD k (0, 0)).1)
  rw [Nat.add_zero] at e
  rw [e, flat_set (k := 2) (fun i _ => by by_cases h : i = k <;> simp [h, laidW_length]) k 1 hk (by decide)]
  apply flat_congr
  intro i hi
  by_cases h : i = k
  · subst h
    simp [laidW]
  · by_cases h2 : i < k
    · have h3 : i < k + 1 := by omega
      simp [h, laidW, h2, h3]
    · have h3 : ¬ i < k + 1 := by omega
      simp [h, laidW, h2, h3]
def OwnW (B : Nat) (w : World) (v : Value) (W : List Wn) : Prop := w.ownsRow B 52 2 v W.length (flat W.length (laidW W.length W))
theorem OwnW.rd {B : Nat} {w : World} {a : Option Addr} {n c : Nat} {W : List Wn} (h : OwnW B w (.slice a n c) W) : RdW w a W := by
  intro hz
  have h0 : 0 < W.length := List.length_pos_iff.2 hz
  have hr := h
  unfold OwnW at hr
  rcases hr.2 with ⟨h', hh⟩ | ⟨g, cap, cur, h', hb, hh, hnc, hcm, hcs, htake⟩
  · omega
  · have hl : n = W.length ∧ a = some ⟨g, 0, none⟩ := by simp only [Value.slice.injEq] at h'; exact ⟨h'.2.1, h'.1⟩
    obtain ⟨rfl, rfl⟩ := hl
    refine ⟨g, 0, rfl, (hr.lt g rfl).2, fun i hi => ?_⟩
    have hf := flat_get (n := W.length) (k := 2) (F := laidW W.length W) (fun i _ => laidW_length _ _ _) i
    have c0 := World.ownsRow.cellAt hr (i * 2) (by omega)
    have c1 := World.ownsRow.cellAt hr (i * 2 + 1) (by omega)
    have f0 := hf 0 hi (by decide)
    have f1 := hf 1 hi (by decide)
    rw [Nat.add_zero] at f0
    rw [f0] at c0
    rw [f1] at c1
    simp only [laidW, if_pos hi] at c0 c1
    exact ⟨by simpa using c0, by simpa [Nat.add_assoc] using c1⟩
def Bx3 (w : World) (b : Nat) (u0 u1 u2 : Value) : Prop := (w.cell? ⟨b, 0, none⟩ = some u0 ∧ w.cell? ⟨b, 1, none⟩ = some u1 ∧ w.cell? ⟨b, 2, none⟩ = some u2) ∧ w.frozen? ⟨b, 0, none⟩ = false ∧ w.frozen? ⟨b, 1, none⟩ = false ∧ w.frozen? ⟨b, 2, none⟩ = false
theorem Bx3.new (w : World) (u0 u1 u2 : Value) (t : TypeId) : Bx3 (w.alloc (.cells #[u0, u1, u2] t)) w.heap.size u0 u1 u2 := ⟨⟨by simp, by simp, by simp⟩, by simp, by simp, by simp⟩
theorem Bx3.lt {w : World} {b : Nat} {u0 u1 u2 : Value} (h : Bx3 w b u0 u1 u2) : b < w.heap.size := World.block_lt_of_cell? w ⟨b, 0, none⟩ h.1.1
theorem Bx3.kept {S : Nat → Prop} {w w' : World} {b : Nat} {u0 u1 u2 : Value} (h : Bx3 w b u0 u1 u2) (hk : Kept S w w') (hn : ¬ S b) : Bx3 w' b u0 u1 u2 :=
  ⟨⟨(hk.cell (p := ⟨b, 0, none⟩) h.lt hn).trans h.1.1, (hk.cell (p := ⟨b, 1, none⟩) h.lt hn).trans h.1.2.1, (hk.cell (p := ⟨b, 2, none⟩) h.lt hn).trans h.1.2.2⟩, (hk.frozen (p := ⟨b, 0, none⟩) h.lt hn).trans h.2.1, (hk.frozen (p := ⟨b, 1, none⟩) h.lt hn).trans h.2.2.1, (hk.frozen (p := ⟨b, 2, none⟩) h.lt hn).trans h.2.2.2⟩
theorem Bx3.below {w w' : World} {b : Nat} {u0 u1 u2 : Value} (h : Bx3 w b u0 u1 u2) (hk : Below w.heap.size w w') : Bx3 w' b u0 u1 u2 := h.kept (S := fun _ => False) (Kept.of_below hk) id
theorem Bx3.set0 {w : World} {b : Nat} {u0 u1 u2 : Value} (h : Bx3 w b u0 u1 u2) (u : Value) : Bx3 (w.setCell ⟨b, 0, none⟩ u) b u u1 u2 := by
  obtain ⟨⟨m0, m1, m2⟩, f0, f1, f2⟩ := h
  refine ⟨⟨cell_set_same m0, ?_, ?_⟩, ?_, ?_, ?_⟩
  · rw [cell_set_other (by simp)]; exact m1
  · rw [cell_set_other (by simp)]; exact m2
  · rw [World.frozen?_setCell]; exact f0
  · rw [World.frozen?_setCell]; exact f1
  · rw [World.frozen?_setCell]; exact f2
theorem Bx3.set1 {w : World} {b : Nat} {u0 u1 u2 : Value} (h : Bx3 w b u0 u1 u2) (u : Value) : Bx3 (w.setCell ⟨b, 1, none⟩ u) b u0 u u2 := by
  obtain ⟨⟨m0, m1, m2⟩, f0, f1, f2⟩ := h
  refine ⟨⟨?_, cell_set_same m1, ?_⟩, ?_, ?_, ?_⟩
  · rw [cell_set_other (by simp)]; exact m0
  · rw [cell_set_other (by simp)]; exact m2
  · rw [World.frozen?_setCell]; exact f0
  · rw [World.frozen?_setCell]; exact f1
  · rw [World.frozen?_setCell]; exact f2
theorem Kept.one (w : World) (b i : Nat) (u : Value) : Kept (fun x => x = b) w (w.setCell ⟨b, i, none⟩ u) := Kept.setCell (S := fun x => x = b) (p := ⟨b, i, none⟩) (Kept.refl _ w) (fun _ => rfl) u
abbrev Lat (w : World) := InW (fun x => Below w.heap.size w x)
theorem lat_some (w : World) : Nonempty (Lat w) := ⟨⟨w, Below.refl _ _⟩⟩
theorem lat_below {f : FuncId} {args : Array Value} {w : World} {v : Value} (h : ∀ u : Lat w, Calls Try.prog f args u.val fun e w' => e = .returned v ∧ Below u.val.heap.size u.val w') : ∀ u : Lat w, Calls Try.prog f args u.val fun e w' => e = .returned v ∧ ∃ x : Lat w, w' = x.val := fun u => (h u).mono (fun e w' ⟨he, hw⟩ => ⟨he, ⟨w', below_next u.ok hw⟩, rfl⟩)
def fetV (wa : Option Addr) (wn wc : Nat) (fa : Option Addr) (fn fc : Nat) (ca : Option Addr) (cn cc : Nat) : Value := .agg #[.slice wa wn wc, .slice fa fn fc, .slice ca cn cc]
structure RdF (w : World) (wa : Option Addr) (W : List Wn) (fa : Option Addr) (F : List Int) (ca : Option Addr) (D : Nat → Int) (P : Nat → List Int) (n : Nat) : Prop where
  wants : RdW w wa W
  failed : Reads .i64 w fa F
  chunks : RdC w ca D P n
theorem RdF.below {w w' : World} {wa : Option Addr} {W : List Wn} {fa : Option Addr} {F : List Int} {ca : Option Addr} {D : Nat → Int} {P : Nat → List Int} {n : Nat} (h : RdF w wa W fa F ca D P n) (hb : Below w.heap.size w w') : RdF w' wa W fa F ca D P n := ⟨h.wants.below hb, h.failed.below hb, h.chunks.below hb⟩
end Go.Proofs.Ytfamojijgjmcmaa

