/-
  Contracts of the laws' helpers on lists of chunks.
-/
import Derived.Test.YtdebojhginiihahFlat
import Derived.Test.YtdebojhginiihahBytes
namespace Go.Proofs.Ytdebojhginiihah
open Go.RowKit
set_option linter.unusedVariables false

/-- The slice at address a reads as n chunks: digests D, bytes P. -/
def RdC (w : World) (a : Option Addr) (D : Nat → Int) (P : Nat → List Int) (n : Nat) : Prop :=
  0 < n → ∃ (b off : Nat) (A : Nat → Option Addr) (C : Nat → Nat), a = some ⟨b, off, none⟩ ∧ b < w.heap.size ∧ ∀ i, i < n → w.cell? ⟨b, off + i * 2, none⟩ = some (.int .i64 (D i)) ∧ w.cell? ⟨b, off + i * 2 + 1, none⟩ = some (.slice (A i) (P i).length (C i)) ∧ Reads .u8 w (A i) (P i)

theorem RdC.below {w w' : World} {a : Option Addr} {D : Nat → Int} {P : Nat → List Int} {n : Nat} (h : RdC w a D P n) (hk : Below w.heap.size w w') : RdC w' a D P n := by
  intro hn
  obtain ⟨b, off, A, C, e, hb, hc⟩ := h hn
  exact ⟨b, off, A, C, e, Nat.lt_of_lt_of_le hb hk.size, fun i hi => ⟨(hk.cell (p := ⟨b, off + i * 2, none⟩) hb).trans (hc i hi).1, (hk.cell (p := ⟨b, off + i * 2 + 1, none⟩) hb).trans (hc i hi).2.1, (hc i hi).2.2.below hk⟩⟩

/-- The cells of chunk i. -/
def chCells (D : Nat → Int) (P : Nat → List Int) (A : Nat → Option Addr) (C : Nat → Nat) (i : Nat) : List Value := [.int .i64 (D i), .slice (A i) (P i).length (C i)]

/-- v is a row of n chunks, each one's bytes in a block of their own; all blocks from B on and below T. -/
def GC (B T : Nat) (w : World) (v : Value) (D : Nat → Int) (P : Nat → List Int) (n : Nat) : Prop :=
  ∃ (A : Nat → Option Addr) (C : Nat → Nat), w.ownsRow B 65 2 v n (flat n (chCells D P A C)) ∧
    (∀ i, i < n → w.ownsRow B 5 1 (.slice (A i) (P i).length (C i)) (P i).length ((P i).map (Value.int .u8))) ∧
    (∀ i i' g, i < n → i' < n → (A i).map Addr.block = some g → (A i').map Addr.block = some g → i = i') ∧
    (∀ i g, i < n → (A i).map Addr.block = some g → g < T) ∧ ∀ b, v.ownBlock = some b → b < T

theorem Try.infoCh : (Try.prog.info? 65).map (fun i => (i.zero, i.size, i.bytes)) = some (some (.agg #[.int .i64 0, .slice none 0 0]), 2, 32) := by kernel_rfl

set_option maxHeartbeats 400000 in
theorem toChunk_any (d : Int) (a : Option Addr) (c : Nat) (zs : List Int) (w : World) (h : Reads .u8 w a zs) (hl : zs.length ≤ 1048576) :
    Calls Try.prog 44 #[.agg #[.int .i64 d, .slice a zs.length c]] w fun e w' => ∃ g, e = .returned (.agg #[.int .i64 d, .slice (some ⟨g, 0, none⟩) zs.length zs.length]) ∧ w.heap.size ≤ g ∧ w'.ownsRow w.heap.size 5 1 (.slice (some ⟨g, 0, none⟩) zs.length zs.length) zs.length (zs.map (Value.int .u8)) ∧ Below w.heap.size w w' := by
  have HR := hide h
  clear h
  go_enter Try.func44, Try.ntmps44
  go_wp2_with fail
  have X1 := hide ((Box.new (w.alloc (.cells #[.int .i64 d, .slice a zs.length c] 60)) (.int .i64 0) (.slice none 0 0) 65).below (below_alloc _ (.cells #[.int .i64 d, .slice none 0 0] 65)))
  have X2 := hide (Box.new ((w.alloc (.cells #[.int .i64 d, .slice a zs.length c] 60)).alloc (.cells #[.int .i64 0, .slice none 0 0] 65)) (.int .i64 d) (.slice none 0 0) 65)
  have B0 := hide (below_next (below_next (below_alloc w (.cells #[.int .i64 d, .slice a zs.length c] 60)) (below_alloc _ (.cells #[.int .i64 0, .slice none 0 0] 65))) (below_alloc _ (.cells #[.int .i64 d, .slice none 0 0] 65)))
  have hsz : (((w.alloc (.cells #[.int .i64 d, .slice a zs.length c] 60)).alloc (.cells #[.int .i64 0, .slice none 0 0] 65)).alloc (.cells #[.int .i64 d, .slice none 0 0] 65)).heap.size = w.heap.size + 3 := by simp
  have h1 : (w.alloc (.cells #[.int .i64 d, .slice a zs.length c] 60)).heap.size = w.heap.size + 1 := by simp
  have h2 : ((w.alloc (.cells #[.int .i64 d, .slice a zs.length c] 60)).alloc (.cells #[.int .i64 0, .slice none 0 0] 65)).heap.size = w.heap.size + 1 + 1 := by simp
  rw [h1] at X1
  rw [h2] at X2
  clear h1 h2
  generalize ((w.alloc (.cells #[.int .i64 d, .slice a zs.length c] 60)).alloc (.cells #[.int .i64 0, .slice none 0 0] 65)).alloc (.cells #[.int .i64 d, .slice none 0 0] 65) = W at *
  have HZ := hide hsz
  clear hsz
  refine (toByteS_own a c zs _ (HR.out.below B0.out) hl).mono ?_
  rintro e w1 ⟨g, rfl, hg, ho, b1⟩
  obtain ⟨⟨q0, q1⟩, q2, q3⟩ := X1.out.below b1
  obtain ⟨⟨r0, r1⟩, r2, r3⟩ := X2.out.below b1
  have hg2 : w.heap.size + 3 ≤ g := by have := HZ.out; omega
  have HO := hide ho
  have HB := hide (below_next B0.out b1)
  clear ho b1 X1 X2 B0 hg
  go_wp2_with fail
  have hk : Kept (fun b => b = w.heap.size + 1 ∨ b = w.heap.size + 1 + 1) w1 (((w1.setCell ⟨w.heap.size + 1 + 1, 1, none⟩ (.slice (some ⟨g, 0, none⟩) zs.length zs.length)).setCell ⟨w.heap.size + 1, 0, none⟩ (.int .i64 d)).setCell ⟨w.heap.size + 1, 1, none⟩ (.slice (some ⟨g, 0, none⟩) zs.length zs.length)) :=
    Kept.setCell (p := ⟨w.heap.size + 1, 1, none⟩) (Kept.setCell (p := ⟨w.heap.size + 1, 0, none⟩) (Kept.setCell (p := ⟨w.heap.size + 1 + 1, 1, none⟩) (Kept.refl _ _) (fun _ => .inr rfl) _) (fun _ => .inl rfl) _) (fun _ => .inl rfl) _
  refine bodyPost_ret (v := .agg #[.int .i64 d, .slice (some ⟨g, 0, none⟩) zs.length zs.length]) (by simp [results, Try.results44, go_sem, q0, q1]) rfl ⟨g, rfl, by omega, ?_, HB.out.trans (hk.below HB.out.size (fun k hk hS => by omega))⟩
  exact ownsRow_mono (ownsRow_kept HO.out hk (fun b hb hS => by simp only [Value.ownBlock, Option.some.injEq] at hb; omega)) (by have := HZ.out; omega)

set_option maxHeartbeats 400000 in
theorem eqChunk_same (d : Int) (a b : Option Addr) (ca cb : Nat) (zs : List Int) (w : World) (ha : Reads .u8 w a zs) (hb : Reads .u8 w b zs) (hl : zs.length ≤ 1048576) :
    Calls Try.prog 50 #[.agg #[.int .i64 d, .slice a zs.length ca], .agg #[.int .i64 d, .slice b zs.length cb]] w fun e w' => e = .returned (.bool true) ∧ Below w.heap.size w w' := by
  have HA := hide ha
  have HB := hide hb
  clear ha hb
  have B1 := hide (below_next (below_alloc w (.cells #[.int .i64 d, .slice a zs.length ca] 65)) (below_alloc _ (.cells #[.int .i64 d, .slice b zs.length cb] 65)))
  go_enter Try.func50, Try.ntmps50
  go_wp2_with fail
  refine (eqByteS_b a b ca cb zs _ (HA.out.below B1.out) (HB.out.below B1.out) hl).mono ?_
  rintro e w1 ⟨rfl, b1⟩
  have B2 := hide (below_next B1.out b1)
  clear b1 B1
  go_wp2_with fail
  go_ret
  exact ⟨rfl, B2.out⟩

set_option maxHeartbeats 800000 in
theorem eqChunkS_same (a b : Option Addr) (ca cb n : Nat) (D : Nat → Int) (P : Nat → List Int) (w : World) (ha : RdC w a D P n) (hb : RdC w b D P n) (hl : n ≤ 1048576) (hP : ∀ i, i < n → (P i).length ≤ 1048576) :
    Calls Try.prog 15 #[.slice a n ca, .slice b n cb] w fun e w' => e = .returned (.bool true) ∧ Below w.heap.size w w' := by
  have hne : ((n : Int) != (n : Int)) = false := by simp
  have HA := hide ha
  have HB := hide hb
  have HP := hide hP
  clear ha hb hP
  go_enter Try.func15, Try.ntmps15
  go_wp2
  go_loopw [5] (fun i wr => ∃ k : Nat, k ≤ n ∧ i = .int .i64 k ∧ Below w.heap.size w wr) (fun i _ => n - (intOf i).toNat)
  case atStart => exact ⟨0, Nat.zero_le _, rfl, Below.refl _ _⟩
  case round =>
    obtain ⟨k, hk, rfl, hbel⟩ := hrel
    have HW := hide hbel
    clear hbel
    by_cases hlt : k < n
    · obtain ⟨b1, o1, A1, C1, rfl, hb1, hc1⟩ := (HA.out.below HW.out) (by omega)
      obtain ⟨b2, o2, A2, C2, rfl, hb2, hc2⟩ := (HB.out.below HW.out) (by omega)
      obtain ⟨c1, e1, r1⟩ := hc1 k hlt
      obtain ⟨c2, e2, r2⟩ := hc2 k hlt
      have hp := HP.out k hlt
      generalize A1 k = a1 at e1 r1
      generalize A2 k = a2 at e2 r2
      generalize C1 k = d1 at e1
      generalize C2 k = d2 at e2
      generalize P k = xs at e1 r1 e2 r2 hp
      generalize D k = dd at c1 c2
      have R1 := hide r1
      have R2 := hide r2
      have f1 : ∀ u : InW (fun x => Below wr.heap.size wr x), u.val.cell? ⟨b1, o1 + k * 2, none⟩ = some (.int .i64 dd) := fun u => (u.ok.cell (p := ⟨b1, o1 + k * 2, none⟩) hb1).trans c1
      have f2 : ∀ u : InW (fun x => Below wr.heap.size wr x), u.val.cell? ⟨b1, o1 + k * 2 + 1, none⟩ = some (.slice a1 xs.length d1) := fun u => (u.ok.cell (p := ⟨b1, o1 + k * 2 + 1, none⟩) hb1).trans e1
      have f3 : ∀ u : InW (fun x => Below wr.heap.size wr x), u.val.cell? ⟨b2, o2 + k * 2, none⟩ = some (.int .i64 dd) := fun u => (u.ok.cell (p := ⟨b2, o2 + k * 2, none⟩) hb2).trans c2
      have f4 : ∀ u : InW (fun x => Below wr.heap.size wr x), u.val.cell? ⟨b2, o2 + k * 2 + 1, none⟩ = some (.slice a2 xs.length d2) := fun u => (u.ok.cell (p := ⟨b2, o2 + k * 2 + 1, none⟩) hb2).trans e2
      have hne2 : Nonempty (InW (fun x => Below wr.heap.size wr x)) := ⟨⟨wr, Below.refl _ _⟩⟩
      clear hc1 hc2 r1 r2 c1 c2 e1 e2
      go_wp2
      refine wp_region_inv (Inv := fun x => Below wr.heap.size wr x) (by kernel_rfl) (by kernel_rfl) (Below.refl _ _).drew ?_
      repeat (first | go_big_quiet_step ((go_at_call 50; exact calls_inv ((eqChunk_same _ _ _ _ _ xs _ (R1.out.below (InW.ok _)) (R2.out.below (InW.ok _)) hp).mono (fun e w' ⟨he, hb⟩ => ⟨he, below_next (InW.ok _) hb⟩)))) | quiet_step (fail))
      refine wpQuiet_nil ?_
      intro _ hw'
      obtain ⟨u, hw''⟩ := hw'
      subst hw''
      have B7 := hide (below_next HW.out u.ok)
      clear f1 f2 f3 f4 R1 R2
      go_wp2
      go_roundw
      case rel => exact ⟨k + 1, by omega, by go_num, B7.out⟩
      case measure => simp [intOf]; omega
    · go_wp2
      go_ret
      exact ⟨rfl, HW.out⟩

set_option maxHeartbeats 400000 in
theorem szByteS_fits (a : Option Addr) (n c : Nat) (left : Int) (w : World) (h0 : left ≤ 1048576) (hn : (n : Int) ≤ left) :
    Calls Try.prog 65 #[.slice a n c, .int .i64 left] w fun e w' => e = .returned (.int .i64 (left - n)) ∧ w' = w := by
  have hb : ¬ (left - (n : Int)) < 0 := by omega
  go_enter Try.func65, Try.ntmps65
  go_wp2
  go_ret
  exact ⟨rfl, rfl⟩
set_option maxHeartbeats 400000 in
theorem szByteS_not (a : Option Addr) (n c : Nat) (left : Int) (w : World) (h0 : 0 ≤ left) (hl : left ≤ 1048576) (hm : (n : Int) ≤ 9223372036854775807) (hn : left < (n : Int)) :
    Calls Try.prog 65 #[.slice a n c, .int .i64 left] w fun e w' => e = .returned (.int .i64 (-1)) ∧ w' = w := by
  have hb : (left - (n : Int)) < 0 := by omega
  go_enter Try.func65, Try.ntmps65
  go_wp2
  go_ret
  exact ⟨rfl, rfl⟩

set_option maxHeartbeats 400000 in
theorem szChunk_fits (d : Int) (a : Option Addr) (n c : Nat) (left : Int) (w : World) (h0 : left ≤ 1048576) (hn : (n : Int) ≤ left) :
    Calls Try.prog 40 #[.agg #[.int .i64 d, .slice a n c], .int .i64 left] w fun e w' => e = .returned (.int .i64 (left - n)) ∧ Below w.heap.size w w' := by
  have hb : ¬ (left - (n : Int)) < 0 := by omega
  go_enter Try.func40, Try.ntmps40
  go_wp2_with fail
  refine (szByteS_fits a n c left _ h0 hn).mono ?_
  rintro e w1 ⟨rfl, rfl⟩
  go_wp2_with fail
  go_ret
  exact ⟨rfl, below_alloc _ _⟩
set_option maxHeartbeats 400000 in
theorem szChunk_not (d : Int) (a : Option Addr) (n c : Nat) (left : Int) (w : World) (h0 : 0 ≤ left) (hl : left ≤ 1048576) (hm : (n : Int) ≤ 9223372036854775807) (hn : left < (n : Int)) :
    Calls Try.prog 40 #[.agg #[.int .i64 d, .slice a n c], .int .i64 left] w fun e w' => e = .returned (.int .i64 (-1)) ∧ Below w.heap.size w w' := by
  go_enter Try.func40, Try.ntmps40
  go_wp2_with fail
  refine (szByteS_not a n c left _ h0 hl hm hn).mono ?_
  rintro e w1 ⟨rfl, rfl⟩
  go_wp2_with fail
  go_ret
  exact ⟨rfl, below_alloc _ _⟩

set_option maxHeartbeats 800000 in
theorem szChunkS_fits (a : Option Addr) (c n : Nat) (D : Nat → Int) (P : Nat → List Int) (left : Int) (w : World) (h : RdC w a D P n) (h0 : left ≤ 1048576) (hn : (n : Int) + (ahead P n : Int) ≤ left) :
    Calls Try.prog 9 #[.slice a n c, .int .i64 left] w fun e w' => e = .returned (.int .i64 (left - n - ahead P n)) ∧ Below w.heap.size w w' := by
  have hb : ¬ (left - (n : Int)) < 0 := by omega
  have HA := hide h
  clear h
  go_enter Try.func9, Try.ntmps9
  go_wp2
  go_loopw [1, 5] (fun q i wr => ∃ k : Nat, k ≤ n ∧ i = .int .i64 k ∧ q = .int .i64 (left - n - ahead P k) ∧ Below w.heap.size w wr) (fun _ i _ => n - (intOf i).toNat)
  case atStart => exact ⟨0, Nat.zero_le _, rfl, by simp [ahead], Below.refl _ _⟩
  case round =>
    obtain ⟨k, hk, rfl, rfl, hbel⟩ := hrel
    have HW := hide hbel
    clear hbel
    by_cases hlt : k < n
    · obtain ⟨b1, o1, A1, C1, rfl, hb1, hc1⟩ := (HA.out.below HW.out) (by omega)
      obtain ⟨c1, e1, r1⟩ := hc1 k hlt
      have hle := ahead_le P (i := k + 1) (j := n) (by omega)
      simp only [ahead] at hle
      have hs : ahead P (k + 1) = ahead P k + (P k).length := rfl
      have HSu := hide hs
      clear hs
      generalize A1 k = a1 at e1 r1
      generalize C1 k = d1 at e1
      generalize (P k).length = pl at *
      generalize D k = dd at c1
      have hb2 : ¬ (left - (n : Int) - (ahead P k : Int) - (pl : Int)) < 0 := by omega
      clear hc1 r1
      go_wp2_with (go_at_call 40; refine (szChunk_fits dd a1 pl d1 _ _ (by omega) (by omega)).mono ?_; rintro e w1 ⟨rfl, b1'⟩; have HB1 := hide b1'; clear b1')
      go_roundw
      case rel => exact ⟨k + 1, by omega, by go_num, by rw [HSu.out]; go_num, below_next HW.out HB1.out⟩
      case measure => simp [intOf]; omega
    · have hke : k = n := by omega
      subst hke
      go_wp2
      go_ret
      exact ⟨rfl, HW.out⟩

set_option maxHeartbeats 800000 in
theorem szChunkS_not (a : Option Addr) (c n : Nat) (D : Nat → Int) (P : Nat → List Int) (left : Int) (w : World) (h : RdC w a D P n) (h00 : 0 ≤ left) (h0 : left ≤ 1048576) (hm : (n : Int) ≤ 9223372036854775807) (hmP : ∀ i, i < n → ((P i).length : Int) ≤ 9223372036854775807) (hn : left < (n : Int) + (ahead P n : Int)) :
    Calls Try.prog 9 #[.slice a n c, .int .i64 left] w fun e w' => e = .returned (.int .i64 (-1)) ∧ Below w.heap.size w w' := by
  by_cases hsm : left < (n : Int)
  · have hb : (left - (n : Int)) < 0 := by omega
    clear h
    go_enter Try.func9, Try.ntmps9
    go_wp2
    go_ret
    exact ⟨rfl, Below.refl _ _⟩
  · have hb : ¬ (left - (n : Int)) < 0 := by omega
    have HA := hide h
    have HM := hide hmP
    clear h hmP
    go_enter Try.func9, Try.ntmps9
    go_wp2
    go_loopw [1, 5] (fun q i wr => ∃ k : Nat, k ≤ n ∧ i = .int .i64 k ∧ q = .int .i64 (left - n - ahead P k) ∧ (n : Int) + (ahead P k : Int) ≤ left ∧ Below w.heap.size w wr) (fun _ i _ => n - (intOf i).toNat)
    case atStart => exact ⟨0, Nat.zero_le _, rfl, by simp [ahead], by simp [ahead]; omega, Below.refl _ _⟩
    case round =>
      obtain ⟨k, hk, rfl, rfl, hfit, hbel⟩ := hrel
      have HW := hide hbel
      clear hbel
      have hlt : k < n := by
        rcases Nat.lt_or_ge k n with h1 | h1
        · exact h1
        · have : k = n := by omega
          subst this
          omega
      obtain ⟨b1, o1, A1, C1, rfl, hb1, hc1⟩ := (HA.out.below HW.out) (by omega)
      obtain ⟨c1, e1, r1⟩ := hc1 k hlt
      have hs : ahead P (k + 1) = ahead P k + (P k).length := rfl
      have hmk := HM.out k hlt
      have HSu := hide hs
      clear hs
      generalize A1 k = a1 at e1 r1
      generalize C1 k = d1 at e1
      generalize (P k).length = pl at *
      generalize D k = dd at c1
      clear hc1 r1
      by_cases hf : (n : Int) + (ahead P k : Int) + (pl : Int) ≤ left
      · have hb2 : ¬ (left - (n : Int) - (ahead P k : Int) - (pl : Int)) < 0 := by omega
        go_wp2_with (go_at_call 40; refine (szChunk_fits dd a1 pl d1 _ _ (by omega) (by omega)).mono ?_; rintro e w1 ⟨rfl, b1'⟩; have HB1 := hide b1'; clear b1')
        go_roundw
        case rel => exact ⟨k + 1, by omega, by go_num, by rw [HSu.out]; go_num, by rw [HSu.out]; omega, below_next HW.out HB1.out⟩
        case measure => simp [intOf]; omega
      · go_wp2_with (go_at_call 40; refine (szChunk_not dd a1 pl d1 _ _ (by omega) (by omega) (by omega) (by omega)).mono ?_; rintro e w1 ⟨rfl, b1'⟩; have HB1 := hide b1'; clear b1')
        go_ret
        exact ⟨rfl, below_next HW.out HB1.out⟩

/-- The cells of chunk i while the first j are laid. -/
def laid (j : Nat) (D : Nat → Int) (P : Nat → List Int) (A : Nat → Nat) (i : Nat) : List Value :=
  if i < j then [.int .i64 (D i), .slice (some ⟨A i, 0, none⟩) (P i).length (P i).length] else [.int .i64 0, .slice none 0 0]
theorem laid_length (j : Nat) (D : Nat → Int) (P : Nat → List Int) (A : Nat → Nat) (i : Nat) : (laid j D P A i).length = 2 := by
  unfold laid; split <;> rfl
theorem laid_zero (n : Nat) (D : Nat → Int) (P : Nat → List Int) (A : Nat → Nat) : (madeCells #[Value.int .i64 0, .slice none 0 0] (n * 2)).toList = flat n (laid 0 D P A) := by
  have hl := flat_length (n := n) (k := 2) (F := laid 0 D P A) (fun i _ => laid_length _ _ _ _ _)
  apply List.ext_getElem?
  intro p
  by_cases hp : p < n * 2
  · have e : p = p / 2 * 2 + p % 2 := by omega
    have h1 : p / 2 < n := by omega
    have h2 : p % 2 < 2 := by omega
    rw [e, flat_get (fun i _ => laid_length _ _ _ _ _) _ _ h1 h2]
    rw [← e]
    have hm : p % 2 = 0 ∨ p % 2 = 1 := by omega
    rcases hm with hm | hm <;> simp [madeCells, hp, hm, laid]
  · rw [List.getElem?_eq_none (by simp [madeCells]; omega), List.getElem?_eq_none (by omega)]

theorem laid_step {n k : Nat} {D : Nat → Int} {P : Nat → List Int} {A : Nat → Nat} {g : Nat} (hk : k < n) :
    ((flat n (laid k D P A)).set (k * 2) (.int .i64 (D k))).set (k * 2 + 1) (.slice (some ⟨g, 0, none⟩) (P k).length (P k).length) = flat n (laid (k + 1) D P (fun i => if i = k then g else A i)) := by
  have e := flat_set (n := n) (k := 2) (F := laid k D P A) (fun i _ => laid_length _ _ _ _ _) k 0 hk (by decide) (.int .i64 (D k))
  rw [Nat.add_zero] at e
  rw [e, flat_set (k := 2) (fun i _ => by by_cases h : i = k <;> simp [h, laid_length]) k 1 hk (by decide)]
  apply flat_congr
  intro i hi
  by_cases h : i = k
  · subst h
    simp [laid]
  · by_cases h2 : i < k
    · have h3 : i < k + 1 := by omega
      simp [h, laid, h2, h3]
    · have h3 : ¬ i < k + 1 := by omega
      simp [h, laid, h2, h3]

/-- The first k chunks are laid into the row v. -/
def ToC (B : Nat) (w : World) (v : Value) (D : Nat → Int) (P : Nat → List Int) (n k : Nat) : Prop :=
  ∃ A : Nat → Nat, w.ownsRow B 65 2 v n (flat n (laid k D P A)) ∧
    (∀ i, i < k → w.ownsRow B 5 1 (.slice (some ⟨A i, 0, none⟩) (P i).length (P i).length) (P i).length ((P i).map (Value.int .u8))) ∧
    ∀ i i', i < k → i' < k → A i = A i' → i = i'

theorem ToC.step {B : Nat} {w w1 : World} {G n k g : Nat} {D : Nat → Int} {P : Nat → List Int} (h : ToC B w (.slice (some ⟨G, 0, none⟩) n n) D P n k) (hk : k < n) (hB : B ≤ w.heap.size) (hbel : Below w.heap.size w w1)
    (hown : w1.ownsRow w.heap.size 5 1 (.slice (some ⟨g, 0, none⟩) (P k).length (P k).length) (P k).length ((P k).map (Value.int .u8))) (hg : w.heap.size ≤ g) :
    ToC B ((w1.setCell ⟨G, k * 2, none⟩ (.int .i64 (D k))).setCell ⟨G, k * 2 + 1, none⟩ (.slice (some ⟨g, 0, none⟩) (P k).length (P k).length)) (.slice (some ⟨G, 0, none⟩) n n) D P n (k + 1) := by
  obtain ⟨A, h1, h2, h3⟩ := h
  have hA : ∀ i, i < k → A i < w.heap.size := fun i hi => ((h2 i hi).lt (A i) rfl).2
  have k1 := ownsRow_below h1 hbel
  have hkp : Kept (fun b => b = G) w1 ((w1.setCell ⟨G, k * 2, none⟩ (.int .i64 (D k))).setCell ⟨G, k * 2 + 1, none⟩ (.slice (some ⟨g, 0, none⟩) (P k).length (P k).length)) := Kept.two _ _ _ _ _ _
  refine ⟨fun i => if i = k then g else A i, ?_, ?_, ?_⟩
  · have := ((k1.stored (k * 2) (.int .i64 (D k))).1.stored (k * 2 + 1) (.slice (some ⟨g, 0, none⟩) (P k).length (P k).length)).1
    rwa [laid_step hk] at this
  · intro i hi
    by_cases e : i = k
    · subst e
      simp only [if_true]
      exact ownsRow_kept (ownsRow_mono hown hB) hkp (fun b hb hS => ownsRow_apart k1 hown (by decide) (by subst hS; rfl) hb)
    · simp only [if_neg e]
      have k2 := ownsRow_below (h2 i (by omega)) hbel
      exact ownsRow_kept k2 hkp (fun b hb hS => ownsRow_apart k1 k2 (by decide) (by subst hS; rfl) hb)
  · intro i i' hi hi' he
    by_cases e : i = k
    · by_cases e' : i' = k
      · omega
      · simp only [if_pos e, if_neg e'] at he
        have := hA i' (by omega)
        omega
    · by_cases e' : i' = k
      · simp only [if_neg e, if_pos e'] at he
        have := hA i (by omega)
        omega
      · simp only [if_neg e, if_neg e'] at he
        exact h3 i i' (by omega) (by omega) he

theorem ToC.gc {B : Nat} {w : World} {v : Value} {D : Nat → Int} {P : Nat → List Int} {n : Nat} (h : ToC B w v D P n n) : GC B w.heap.size w v D P n := by
  obtain ⟨A, h1, h2, h3⟩ := h
  refine ⟨fun i => some ⟨A i, 0, none⟩, fun i => (P i).length, ?_, h2, ?_, ?_, fun b hb => (h1.lt b hb).2⟩
  · have e : flat n (chCells D P (fun i => some ⟨A i, 0, none⟩) (fun i => (P i).length)) = flat n (laid n D P A) := flat_congr (fun i hi => by simp [laid, chCells, hi])
    rw [e]; exact h1
  · intro i i' g hi hi' e1 e2
    simp only [Option.map_some, Option.some.injEq] at e1 e2
    exact h3 i i' hi hi' (by omega)
  · intro i g hi e
    simp only [Option.map_some, Option.some.injEq] at e
    have := ((h2 i hi).lt (A i) rfl).2
    omega

set_option maxHeartbeats 1600000 in
theorem toChunkS_any (a : Option Addr) (c n : Nat) (D : Nat → Int) (P : Nat → List Int) (w : World) (h : RdC w a D P n) (hn : n ≤ 1048576) (hP : ∀ i, i < n → (P i).length ≤ 1048576) :
    Calls Try.prog 11 #[.slice a n c] w fun e w' => ∃ G, e = .returned (.slice (some ⟨G, 0, none⟩) n n) ∧ w.heap.size ≤ G ∧ GC w.heap.size w'.heap.size w' (.slice (some ⟨G, 0, none⟩) n n) D P n ∧ Below w.heap.size w w' := by
  obtain ⟨i1, ki, kz0, kz1, kz2⟩ := info_parts Try.infoCh
  have HA := hide h
  have HP := hide hP
  clear h hP
  have hby : i1.bytes * n ≤ 281474976710656 := by rw [kz2]; omega
  have hml : n ≤ maxLen := by unfold maxLen; omega
  go_enter Try.func11, Try.ntmps11
  go_wp2_with (at_make; refine wpList_make_full _ rfl (.tmp 6) (.tmp 6) 25 rfl w.heap.size 65 i1 (.agg #[.int .i64 0, .slice none 0 0]) 2 Try.underlying25 ki kz0 kz1 .i64 .i64 _ _ n rfl rfl rfl rfl hby hml (Nat.le_refl _) ?_; intro w1 ho1 hg1; have HO1 := hide ho1; have HG1 := hide hg1; clear ho1 hg1)
  have hz : madeCells (Value.agg #[.int .i64 0, .slice none 0 0]).cells (n * 2) = madeCells #[.int .i64 0, .slice none 0 0] (n * 2) := rfl
  have T1 : Hid (ToC w.heap.size w1 (.slice (some ⟨w.heap.size, 0, none⟩) n n) D P n 0) := by
    refine ⟨fun _ => 0, ?_, fun i hi => absurd hi (by omega), fun i i' hi => absurd hi (by omega)⟩
    rw [← laid_zero n D P (fun _ => 0)]
    exact HO1.out
  have B1 : Hid (Below w.heap.size w w1) := (Below.refl _ _).grown HG1.out (Nat.le_refl _) (fun k hk => by simp at hk)
  clear hz HO1 HG1
  go_loopw [4] (fun i wr => ∃ k : Nat, k ≤ n ∧ i = .int .i64 k ∧ ToC w.heap.size wr (.slice (some ⟨w.heap.size, 0, none⟩) n n) D P n k ∧ Below w.heap.size w wr) (fun i _ => n - (intOf i).toNat)
  case atStart => exact ⟨0, Nat.zero_le _, rfl, T1.out, B1.out⟩
  case round =>
    obtain ⟨k, hk, rfl, hT, hbel⟩ := hrel
    have HT := hide hT
    have HW := hide hbel
    have hsz := hbel.size
    clear hT hbel T1 B1
    by_cases hlt : k < n
    · obtain ⟨b1, o1, A1, C1, rfl, hb1, hc1⟩ := (HA.out.below HW.out) (by omega)
      obtain ⟨c1, e1, r1⟩ := hc1 k hlt
      have hp := HP.out k hlt
      generalize A1 k = a1 at e1 r1
      generalize C1 k = d1 at e1
      have R1 := hide r1
      clear hc1 r1
      have HST := hide (fun (w1 : World) (g : Nat) => HT.out.step (w1 := w1) (g := g) hlt hsz)
      obtain ⟨AA, q1, q2, q3⟩ := HT.out
      have hf := flat_get (n := n) (k := 2) (F := laid k D P AA) (fun i _ => laid_length _ _ _ _ _) k
      have Q1 := hide q1
      have hz0 : (flat n (laid k D P AA))[k * 2]? = some (.int .i64 0) := by
        have := hf 0 hlt (by decide)
        rw [Nat.add_zero] at this
        rw [this]; simp [laid]
      have hz1 : (flat n (laid k D P AA))[k * 2 + 1]? = some (.slice none 0 0) := by
        rw [hf 1 hlt (by decide)]; simp [laid]
      have Z0 := hide hz0
      have Z1 := hide hz1
      clear hf q1 q2 q3 hz0 hz1
      generalize hxs : P k = xs at *
      generalize hdd : D k = dd at *
      have HX := hide (And.intro hxs hdd)
      clear hxs hdd
      go_wp2_with (go_at_call 44; refine (toChunk_any dd a1 d1 xs _ R1.out hp).mono ?_; rintro e w2 ⟨g, rfl, hg, ho, hb⟩; have k1 := ownsRow_below Q1.out hb; have m0 : w2.cell? ⟨w.heap.size, k * 2, none⟩ = some (.int .i64 0) := (k1.cellAt (k * 2) (by omega)).trans Z0.out; have m1 : w2.cell? ⟨w.heap.size, k * 2 + 1, none⟩ = some (.slice none 0 0) := (k1.cellAt (k * 2 + 1) (by omega)).trans Z1.out; have m2 := k1.frozenAt (k * 2); have m3 := k1.frozenAt (k * 2 + 1); have HO2 := hide ho; have HB2 := hide hb; clear ho hb k1)
      go_roundw
      case rel => exact ⟨k + 1, by omega, by go_num, HST.out w2 g HB2.out HO2.out hg, ((below_next HW.out HB2.out).setCell (Nat.le_refl _) _).setCell (Nat.le_refl _) _⟩
      case measure => simp [intOf]; omega
    · have hke : k = n := by omega
      subst hke
      go_wp2
      go_ret
      exact ⟨_, rfl, Nat.le_refl _, HT.out.gc, HW.out⟩

end Go.Proofs.Ytdebojhginiihah
