/-
  Texts put together: ChunksIn FetX FetE FetF.
-/
import Derived.Test.YtfamiehfpmjljaaGreatDoorKHearFe2
import Derived.Deep.SlicePairs
import Derived.ProofKit
import Derived.ChangeOld
import Derived.Test.YtfamiehfpmjljaaGreatDoorKHearFe4
import Derived.Test.YtfamiehfpmjljaaGreatDoorKHearFe3
import Derived.LaidEql
import Derived.Stop.Asserts
import Derived.RowKitTokens
namespace Go.Proofs.YtfamiehfpmjljaaGreatDoor
open Go.ChangeShapes Go.WideShapes Go.ChangeAt Go.RowKit
set_option linter.unusedVariables false

theorem bytes_of_trod {H : Type} {enc : TypeId × Value → H} {W : World} {a : Option Addr} {n c fuel : Nat} {x : DataW H × List MemPlace}
    (h : DataW.trod enc Tryz.prog W 0 (fun _ => true) true fuel 22 [.slice a n c] = some x) : ∃ zs : List Int, zs.length = n ∧ Reads .u8 W a zs ∧ U8 zs ∧ zs.length ≤ maxLen := by
  rcases open_ints Tryz.underlying22 Tryz.underlying5 (by kernel_rfl) h with ⟨hcs, _⟩ | ⟨x, l, c, zs, hcs, _, hl, hm, hz, _, hcell, hwz⟩
  · simp at hcs
    obtain ⟨rfl, rfl, rfl⟩ := hcs
    exact ⟨[], rfl, fun h => absurd rfl h, fun z hz => by simp at hz, Nat.zero_le _⟩
  · simp at hcs
    obtain ⟨rfl, rfl, rfl⟩ := hcs
    exact reads_of_row (by simpa using hz) hl hm hcell hwz

theorem reads_of_row64 {W : World} {x : Addr} {l c : Nat} {zs : List Int} (hz : zs.length = c) (hl : l ≤ c) (hm : c ≤ maxLen) (hcell : ∀ i, i < zs.length → W.cell? (x.add i) = some (.int .i64 (zs.getD i 0))) (hwz : ∀ n ∈ zs, (Lit.int .i64 n).wf = true) :
    ∃ ys : List Int, ys.length = l ∧ Reads .i64 W (some x) ys ∧ (∀ z ∈ ys, (Lit.int .i64 z).wf = true) ∧ ys.length ≤ maxLen := by
  have hlen : (zs.take l).length = l := by simp; omega
  refine ⟨zs.take l, hlen, ?_, fun z hz' => hwz z (List.mem_of_mem_take hz'), by omega⟩
  intro hne
  have h0 : 0 < l := by
    rcases Nat.eq_zero_or_pos l with h | h
    · subst h; exact absurd rfl hne
    · exact h
  obtain ⟨b, off, spot⟩ := x
  have hc := hcell 0 (by omega)
  have hspot : spot = none := by simpa [Addr.add] using World.cell?_spot hc
  subst hspot
  refine ⟨b, off, rfl, World.block_lt_of_cell? W _ (by simpa [Addr.add] using hc), fun i hi => ?_⟩
  have := hcell i (by omega)
  have e : (zs.take l).getD i 0 = zs.getD i 0 := by
    have h2 : i < l := by omega
    simp [List.getD_eq_getElem?_getD, h2]
  rw [e]
  have ea : (⟨b, off, none⟩ : Addr).add i = ⟨b, off + i, none⟩ := by unfold Addr.add; split <;> simp_all
  rw [ea] at this
  exact this

theorem ints_of_trod {H : Type} {enc : TypeId × Value → H} {W : World} {a : Option Addr} {n c fuel : Nat} {x : DataW H × List MemPlace}
    (h : DataW.trod enc Tryz.prog W 0 (fun _ => true) true fuel 25 [.slice a n c] = some x) : ∃ zs : List Int, zs.length = n ∧ Reads .i64 W a zs ∧ (∀ z ∈ zs, (Lit.int .i64 z).wf = true) ∧ zs.length ≤ maxLen := by
  rcases open_ints Tryz.underlying25 Tryz.underlying2 (by kernel_rfl) h with ⟨hcs, _⟩ | ⟨x, l, c, zs, hcs, _, hl, hm, hz, _, hcell, hwz⟩
  · simp at hcs
    obtain ⟨rfl, rfl, rfl⟩ := hcs
    exact ⟨[], rfl, fun h => absurd rfl h, fun z hz => by simp at hz, Nat.zero_le _⟩
  · simp at hcs
    obtain ⟨rfl, rfl, rfl⟩ := hcs
    exact reads_of_row64 (by simpa using hz) hl hm hcell hwz

theorem rdC_of_trod {H : Type} {enc : TypeId × Value → H} {W : World} {a : Option Addr} {n c fuel : Nat} {x : DataW H × List MemPlace}
    (h : DataW.trod enc Tryz.prog W 0 (fun _ => true) true fuel 49 [.slice a n c] = some x) :
    ∃ (D : Nat → Int) (P : Nat → List Int), RdC W a D P n ∧ n ≤ maxLen ∧ ∀ i, i < n → (Lit.int .i64 (D i)).wf = true ∧ U8 (P i) ∧ (P i).length ≤ maxLen := by
  rcases Deep.open_slice_pairs Tryz.underlying49 Tryz.underlying143 (by kernel_rfl) rfl rfl (by kernel_rfl) (by kernel_rfl) h with ⟨hcs, _⟩ | ⟨x, l, cp, m, fu, V0, V1, D0, D1, P0, P1, hcs, _, hl, hm, hmm, _, hx⟩
  · simp at hcs
    obtain ⟨rfl, rfl, rfl⟩ := hcs
    exact ⟨fun _ => 0, fun _ => [], fun h => absurd h (by omega), Nat.zero_le _, fun i hi => absurd hi (by omega)⟩
  · simp at hcs
    obtain ⟨rfl, rfl, rfl⟩ := hcs
    simp only [if_true] at hmm
    subst hmm
    have each : ∀ i, i < n → ∃ q : Int × List Int × Option Addr × Nat, V0 i = .int .i64 q.1 ∧ V1 i = .slice q.2.2.1 q.2.1.length q.2.2.2 ∧ Reads .u8 W q.2.2.1 q.2.1 ∧ (Lit.int .i64 q.1).wf = true ∧ U8 q.2.1 ∧ q.2.1.length ≤ maxLen := by
      intro i hi
      obtain ⟨c0, c1, t0, t1⟩ := hx i (by omega)
      obtain ⟨z, hz, _, hw⟩ := DataW.trod_int Tryz.underlying2 t0
      obtain ⟨a1, n1, k1, e1⟩ : ∃ a1 n1 k1, V1 i = .slice a1 n1 k1 := by
        rcases open_ints Tryz.underlying22 Tryz.underlying5 (by kernel_rfl) t1 with ⟨hcs, _⟩ | ⟨x, l, c, zs, hcs, _⟩
        · simp at hcs; exact ⟨_, _, _, hcs⟩
        · simp at hcs; exact ⟨_, _, _, hcs⟩
      rw [e1] at t1
      obtain ⟨zs, rfl, hr, hu, hml⟩ := bytes_of_trod t1
      simp at hz
      exact ⟨(z, zs, a1, k1), hz, e1, hr, hw, hu, hml⟩
    haveI : Inhabited (Int × List Int × Option Addr × Nat) := ⟨(0, [], none, 0)⟩
    obtain ⟨q, hq⟩ := Deep.choose_lt each
    refine ⟨fun i => (q i).1, fun i => (q i).2.1, ?_, by omega, fun i hi => (hq i hi).2.2.2⟩
    intro hn
    obtain ⟨b, off, spot⟩ := x
    have hc0 := (hx 0 (by omega)).1
    have hspot : spot = none := by simpa [Addr.add] using World.cell?_spot hc0
    subst hspot
    refine ⟨b, off, fun i => (q i).2.2.1, fun i => (q i).2.2.2, rfl, World.block_lt_of_cell? W _ (by simpa [Addr.add] using hc0), fun i hi => ?_⟩
    obtain ⟨c0, c1, _, _⟩ := hx i (by omega)
    obtain ⟨e0, e1, hr, _⟩ := hq i hi
    have ea : ∀ t, (⟨b, off, none⟩ : Addr).add t = ⟨b, off + t, none⟩ := fun t => by unfold Addr.add; split <;> simp_all
    rw [ea, e0] at c0
    rw [ea, e1] at c1
    exact ⟨c0, by rw [Nat.add_assoc]; exact c1, hr⟩

end Go.Proofs.YtfamiehfpmjljaaGreatDoor

namespace Go.Proofs.YtfamiehfpmjljaaGreatDoor
open Go.ChangeShapes Go.WideShapes Go.ChangeAt Go.RowKit Go.Maps
set_option linter.unusedVariables false

set_option maxHeartbeats 400000 in
theorem toWant_any (d t : Int) (w : World) : Calls Tryz.prog 109 #[.agg #[.int .i64 d, .int .i64 t]] w fun e w' => e = .returned (.agg #[.int .i64 d, .int .i64 t]) ∧ Below w.heap.size w w' := by
  go_enter Tryz.func109, Tryz.ntmps109
  go_wp2
  exact bodyPost_ret (v := .agg #[.int .i64 d, .int .i64 t]) (by simp [results, Tryz.results109, go_sem]) rfl ⟨rfl, below_next (below_next (below_alloc _ _) (below_alloc _ _)) (below_alloc _ _)⟩
set_option maxHeartbeats 400000 in
theorem eqWant_same (d t : Int) (w : World) : Calls Tryz.prog 111 #[.agg #[.int .i64 d, .int .i64 t], .agg #[.int .i64 d, .int .i64 t]] w fun e w' => e = .returned (.bool true) ∧ Below w.heap.size w w' := by
  go_enter Tryz.func111, Tryz.ntmps111
  go_wp2
  go_ret
  exact ⟨rfl, below_next (below_alloc _ _) (below_alloc _ _)⟩
set_option maxHeartbeats 800000 in
theorem eqWantS_same (a b : Option Addr) (ca cb : Nat) (W : List Wn) (w : World) (ha : RdW w a W) (hb : RdW w b W) (hl : W.length ≤ 1048576) :
    Calls Tryz.prog 77 #[.slice a W.length ca, .slice b W.length cb] w fun e w' => e = .returned (.bool true) ∧ Below w.heap.size w w' := by
  have hne : ((W.length : Int) != (W.length : Int)) = false := by simp
  have HA := hide ha
  have HB := hide hb
  clear ha hb
  go_enter Tryz.func77, Tryz.ntmps77
  go_wp2
  go_loopw [5] (fun i wr => ∃ k : Nat, k ≤ W.length ∧ i = .int .i64 k ∧ Below w.heap.size w wr) (fun i _ => W.length - (intOf i).toNat)
  case atStart => exact ⟨0, Nat.zero_le _, rfl, Below.refl _ _⟩
  case round =>
    obtain ⟨k, hk, rfl, hbel⟩ := hrel
    have HW := hide hbel
    clear hbel
    by_cases hlt : k < W.length
    · obtain ⟨b1, o1, rfl, hb1, hc1⟩ := (HA.out.below HW.out) (by intro e; simp [e] at hlt)
      obtain ⟨b2, o2, rfl, hb2, hc2⟩ := (HB.out.below HW.out) (by intro e; simp [e] at hlt)
      obtain ⟨c1, e1⟩ := hc1 k hlt
      obtain ⟨c2, e2⟩ := hc2 k hlt
      generalize (W.getD k (0, 0)).1 = d at c1 c2
      generalize (W.getD k (0, 0)).2 = t at e1 e2
      have f1 : ∀ u : Lat wr, u.val.cell? ⟨b1, o1 + k * 2, none⟩ = some (.int .i64 d) := fun u => (u.ok.cell (p := ⟨b1, o1 + k * 2, none⟩) hb1).trans c1
      have f2 : ∀ u : Lat wr, u.val.cell? ⟨b1, o1 + k * 2 + 1, none⟩ = some (.int .i64 t) := fun u => (u.ok.cell (p := ⟨b1, o1 + k * 2 + 1, none⟩) hb1).trans e1
      have f3 : ∀ u : Lat wr, u.val.cell? ⟨b2, o2 + k * 2, none⟩ = some (.int .i64 d) := fun u => (u.ok.cell (p := ⟨b2, o2 + k * 2, none⟩) hb2).trans c2
      have f4 : ∀ u : Lat wr, u.val.cell? ⟨b2, o2 + k * 2 + 1, none⟩ = some (.int .i64 t) := fun u => (u.ok.cell (p := ⟨b2, o2 + k * 2 + 1, none⟩) hb2).trans e2
      have hne2 := lat_some wr
      have C1 := hide (lat_below fun u : Lat wr => eqWant_same d t u.val)
      clear hc1 hc2 c1 c2 e1 e2
      go_wp2
      refine wp_region_inv (Inv := fun x => Below wr.heap.size wr x) (by kernel_rfl) (by kernel_rfl) (Below.refl _ _).drew ?_
      repeat (first | go_big_quiet_step ((go_at_call 111; exact C1.out _)) | quiet_step (fail))
      refine wpQuiet_nil ?_
      intro _ hw'
      obtain ⟨u, hw''⟩ := hw'
      subst hw''
      have B7 := hide (below_next HW.out u.ok)
      clear f1 f2 f3 f4
      go_wp2
      go_roundw
      case rel => exact ⟨k + 1, by omega, by go_num, B7.out⟩
      case measure => simp [intOf]; omega
    · go_wp2
      go_ret
      exact ⟨rfl, HW.out⟩
set_option maxHeartbeats 400000 in
theorem szWantS_fits (a : Option Addr) (n c : Nat) (left : Int) (w : World) (h0 : left ≤ 1048576) (hn : (n : Int) ≤ left) :
    Calls Tryz.prog 70 #[.slice a n c, .int .i64 left] w fun e w' => e = .returned (.int .i64 (left - n)) ∧ w' = w := by
  have hw : IntKind.i64.wrap (left - n) = left - n := by simp [IntKind.wrap, IntKind.signed, IntKind.bits]; omega
  have hl : ¬ left - (n : Int) < 0 := by omega
  go_enter Tryz.func70, Tryz.ntmps70
  go_wp2
  go_ret
  exact ⟨rfl, rfl⟩
set_option maxHeartbeats 400000 in
theorem szWantS_not (a : Option Addr) (n c : Nat) (left : Int) (w : World) (h0 : 0 ≤ left) (hl : left ≤ 1048576) (hm : (n : Int) ≤ 9223372036854775807) (hn : left < (n : Int)) :
    Calls Tryz.prog 70 #[.slice a n c, .int .i64 left] w fun e w' => e = .returned (.int .i64 (-1)) ∧ w' = w := by
  have hw : IntKind.i64.wrap (left - n) = left - n := by simp [IntKind.wrap, IntKind.signed, IntKind.bits]; omega
  have hl2 : left - (n : Int) < 0 := by omega
  go_enter Tryz.func70, Tryz.ntmps70
  go_wp2
  go_ret
  exact ⟨rfl, rfl⟩
set_option maxHeartbeats 1600000 in
theorem toWantS_any (a : Option Addr) (c : Nat) (W : List Wn) (w : World) (h : RdW w a W) (hn : W.length ≤ 1048576) :
    Calls Tryz.prog 74 #[.slice a W.length c] w fun e w' => ∃ G, e = .returned (.slice (some ⟨G, 0, none⟩) W.length W.length) ∧ w.heap.size ≤ G ∧ OwnW w.heap.size w' (.slice (some ⟨G, 0, none⟩) W.length W.length) W ∧ Below w.heap.size w w' := by
  obtain ⟨i1, ki, kz0, kz1, kz2⟩ := info_parts Tryz.infoWn
  have HA := hide h
  clear h
  have hby : i1.bytes * W.length ≤ 281474976710656 := by rw [kz2]; omega
  have hml : W.length ≤ maxLen := by unfold maxLen; omega
  go_enter Tryz.func74, Tryz.ntmps74
  go_wp2_with (at_make; refine wpList_make_full _ rfl (.tmp 6) (.tmp 6) 24 rfl w.heap.size 120 i1 (.agg #[.int .i64 0, .int .i64 0]) 2 Tryz.underlying24 ki kz0 kz1 .i64 .i64 _ _ W.length rfl rfl rfl rfl hby hml (Nat.le_refl _) ?_; intro w1 ho1 hg1; have HO1 := hide ho1; have HG1 := hide hg1; clear ho1 hg1)
  have T1 : Hid (w1.ownsRow w.heap.size 120 2 (.slice (some ⟨w.heap.size, 0, none⟩) W.length W.length) W.length (flat W.length (laidW 0 W))) := by
    rw [← laidW_zero W.length W]
    exact HO1.out
  have B1 : Hid (Below w.heap.size w w1) := (Below.refl _ _).grown HG1.out (Nat.le_refl _) (fun k hk => by simp at hk)
  clear HO1 HG1
  go_loopw [4] (fun i wr => ∃ k : Nat, k ≤ W.length ∧ i = .int .i64 k ∧ Hid (wr.ownsRow w.heap.size 120 2 (.slice (some ⟨w.heap.size, 0, none⟩) W.length W.length) W.length (flat W.length (laidW k W))) ∧ Hid (Below w.heap.size w wr)) (fun i _ => W.length - (intOf i).toNat)
  case atStart => exact ⟨0, Nat.zero_le _, rfl, T1, B1⟩
  case round =>
    obtain ⟨k, hk, rfl, HT, HW⟩ := hrel
    have hsz := HW.out.size
    clear T1 B1
    by_cases hlt : k < W.length
    · obtain ⟨b1, o1, rfl, hb1, hc1⟩ := (HA.out.below HW.out) (by intro e; simp [e] at hlt)
      obtain ⟨c1, c2⟩ := hc1 k hlt
      have hf := flat_get (n := W.length) (k := 2) (F := laidW k W) (fun i _ => laidW_length _ _ _) k
      have hz0 : (flat W.length (laidW k W))[k * 2]? = some (.int .i64 0) := by
        have := hf 0 hlt (by decide)
        rw [Nat.add_zero] at this
        rw [this]; simp [laidW]
      have hz1 : (flat W.length (laidW k W))[k * 2 + 1]? = some (.int .i64 0) := by
        rw [hf 1 hlt (by decide)]; simp [laidW]
      have Z0 := hide hz0
      have Z1 := hide hz1
      have HS := hide (laidW_step (n := W.length) (W := W) hlt)
      clear hf hz0 hz1 hc1
      generalize (W.getD k (0, 0)).1 = d at *
      generalize (W.getD k (0, 0)).2 = t at *
      go_wp2_with (go_at_call 109; refine (toWant_any d t _).mono ?_; rintro e w2 ⟨rfl, hb⟩; have k1 := ownsRow_below HT.out hb; have m0 : w2.cell? ⟨w.heap.size, k * 2, none⟩ = some (.int .i64 0) := (k1.cellAt (k * 2) (by omega)).trans Z0.out; have m1 : w2.cell? ⟨w.heap.size, k * 2 + 1, none⟩ = some (.int .i64 0) := (k1.cellAt (k * 2 + 1) (by omega)).trans Z1.out; have m2 := k1.frozenAt (k * 2); have m3 := k1.frozenAt (k * 2 + 1); have K1 := hide k1; have HB2 := hide hb; clear k1 hb)
      go_roundw
      case rel => exact ⟨k + 1, by omega, by go_num, hide (by have := ((K1.out.stored (k * 2) (.int .i64 d)).1.stored (k * 2 + 1) (.int .i64 t)).1; rwa [HS.out] at this), hide (((below_next HW.out HB2.out).setCell (p := ⟨w.heap.size, k * 2, none⟩) (Nat.le_refl _) _).setCell (p := ⟨w.heap.size, k * 2 + 1, none⟩) (Nat.le_refl _) _)⟩
      case measure => simp [intOf]; omega
    · have hke : k = W.length := by omega
      subst hke
      go_wp2
      go_ret
      exact ⟨_, rfl, Nat.le_refl _, HT.out, HW.out⟩
set_option maxHeartbeats 400000 in
theorem szIs_fits (a : Option Addr) (n c : Nat) (left : Int) (w : World) (h0 : left ≤ 1048576) (hn : (n : Int) ≤ left) :
    Calls Tryz.prog 71 #[.slice a n c, .int .i64 left] w fun e w' => e = .returned (.int .i64 (left - n)) ∧ w' = w := by
  have hb : ¬ (left - (n : Int)) < 0 := by omega
  go_enter Tryz.func71, Tryz.ntmps71
  go_wp2
  go_ret
  exact ⟨rfl, rfl⟩
set_option maxHeartbeats 400000 in
theorem szIs_not (a : Option Addr) (n c : Nat) (left : Int) (w : World) (h0 : 0 ≤ left) (hl : left ≤ 1048576) (hm : (n : Int) ≤ 9223372036854775807) (hn : left < (n : Int)) :
    Calls Tryz.prog 71 #[.slice a n c, .int .i64 left] w fun e w' => e = .returned (.int .i64 (-1)) ∧ w' = w := by
  have hb : (left - (n : Int)) < 0 := by omega
  go_enter Tryz.func71, Tryz.ntmps71
  go_wp2
  go_ret
  exact ⟨rfl, rfl⟩
set_option maxHeartbeats 800000 in
theorem szFetch_fits (wa : Option Addr) (wc : Nat) (W : List Wn) (fa : Option Addr) (fc : Nat) (F : List Int) (ca : Option Addr) (cc n : Nat) (D : Nat → Int) (P : Nat → List Int) (w : World) (h : RdF w wa W fa F ca D P n) (hn : (W.length : Int) + F.length + n + ahead P n ≤ 1048576) :
    Calls Tryz.prog 23 #[fetV wa W.length wc fa F.length fc ca n cc, .int .i64 1048576] w fun e w' => e = .returned (.int .i64 (1048576 - W.length - F.length - n - ahead P n)) ∧ Below w.heap.size w w' := by
  have B0 := hide (below_alloc w (.cells #[.slice wa W.length wc, .slice fa F.length fc, .slice ca n cc] 51))
  have HC := hide (szChunkS_fits ca cc n D P (1048576 - W.length - F.length) _ (h.chunks.below B0.out) (by omega) (by omega))
  have h1 : ¬ (1048576 : Int) - W.length < 0 := by omega
  have h2 : ¬ (1048576 : Int) - W.length - F.length < 0 := by omega
  have h3 : ¬ (1048576 : Int) - W.length - F.length - n - ahead P n < 0 := by omega
  have HW1 := hide (show (W.length : Int) ≤ 1048576 by omega)
  have HF1 := hide (show (1048576 : Int) - W.length ≤ 1048576 ∧ (F.length : Int) ≤ 1048576 - W.length by omega)
  clear h hn
  unfold fetV
  go_enter Tryz.func23, Tryz.ntmps23
  go_wp2_with fail
  refine (szWantS_fits wa W.length wc 1048576 _ (by decide) HW1.out).mono ?_
  rintro e w1 ⟨rfl, rfl⟩
  go_wp2_with fail
  refine (szIs_fits fa F.length fc (1048576 - W.length) _ HF1.out.1 HF1.out.2).mono ?_
  rintro e w1 ⟨rfl, rfl⟩
  go_wp2_with fail
  refine HC.out.mono ?_
  rintro e w1 ⟨rfl, hb1⟩
  have B1 := hide (below_next B0.out hb1)
  clear hb1 B0
  go_wp2_with fail
  go_ret
  exact ⟨rfl, B1.out⟩
set_option maxHeartbeats 1600000 in
theorem szFetch_not (wa : Option Addr) (wc : Nat) (W : List Wn) (fa : Option Addr) (fc : Nat) (F : List Int) (ca : Option Addr) (cc n : Nat) (D : Nat → Int) (P : Nat → List Int) (w : World) (h : RdF w wa W fa F ca D P n) (hWm : W.length ≤ maxLen) (hFm : F.length ≤ maxLen) (hnm : n ≤ maxLen) (hPm : ∀ i, i < n → ((P i).length : Int) ≤ 9223372036854775807) (hn : ¬ (W.length : Int) + F.length + n + ahead P n ≤ 1048576) :
    Calls Tryz.prog 23 #[fetV wa W.length wc fa F.length fc ca n cc, .int .i64 1048576] w fun e w' => e = .returned (.int .i64 (-1)) ∧ Below w.heap.size w w' := by
  unfold maxLen at hWm hFm hnm
  have B0 := hide (below_alloc w (.cells #[.slice wa W.length wc, .slice fa F.length fc, .slice ca n cc] 51))
  unfold fetV
  by_cases c1 : (W.length : Int) ≤ 1048576
  · have h1 : ¬ (1048576 : Int) - W.length < 0 := by omega
    by_cases c2 : (F.length : Int) ≤ 1048576 - W.length
    · have h2 : ¬ (1048576 : Int) - W.length - F.length < 0 := by omega
      have HC := hide (szChunkS_not ca cc n D P (1048576 - W.length - F.length) _ (h.chunks.below B0.out) (by omega) (by omega) (by omega) hPm (by omega))
      have C1 := hide c1
      have C2 := hide (show (1048576 : Int) - W.length ≤ 1048576 ∧ (F.length : Int) ≤ 1048576 - W.length by omega)
      clear h hn hPm c1 c2
      go_enter Tryz.func23, Tryz.ntmps23
      go_wp2_with fail
      refine (szWantS_fits wa W.length wc 1048576 _ (by decide) C1.out).mono ?_
      rintro e w1 ⟨rfl, rfl⟩
      go_wp2_with fail
      refine (szIs_fits fa F.length fc (1048576 - W.length) _ C2.out.1 C2.out.2).mono ?_
      rintro e w1 ⟨rfl, rfl⟩
      go_wp2_with fail
      refine HC.out.mono ?_
      rintro e w1 ⟨rfl, hb1⟩
      have B1 := hide (below_next B0.out hb1)
      clear hb1 B0
      go_wp2_with fail
      go_ret
      exact ⟨rfl, B1.out⟩
    · have C1 := hide c1
      have C2 := hide (show (0 : Int) ≤ 1048576 - W.length ∧ (1048576 : Int) - W.length ≤ 1048576 ∧ (F.length : Int) ≤ 9223372036854775807 ∧ (1048576 : Int) - W.length < F.length by omega)
      clear h hn hPm c1 c2
      go_enter Tryz.func23, Tryz.ntmps23
      go_wp2_with fail
      refine (szWantS_fits wa W.length wc 1048576 _ (by decide) C1.out).mono ?_
      rintro e w1 ⟨rfl, rfl⟩
      go_wp2_with fail
      refine (szIs_not fa F.length fc (1048576 - W.length) _ C2.out.1 C2.out.2.1 C2.out.2.2.1 C2.out.2.2.2).mono ?_
      rintro e w1 ⟨rfl, rfl⟩
      go_wp2_with fail
      go_ret
      exact ⟨rfl, B0.out⟩
  · have C1 := hide (show (W.length : Int) ≤ 9223372036854775807 ∧ (1048576 : Int) < W.length by omega)
    clear h hn hPm c1
    go_enter Tryz.func23, Tryz.ntmps23
    go_wp2_with fail
    refine (szWantS_not wa W.length wc 1048576 _ (by decide) (by decide) C1.out.1 C1.out.2).mono ?_
    rintro e w1 ⟨rfl, rfl⟩
    go_wp2_with fail
    go_ret
    exact ⟨rfl, B0.out⟩
set_option maxHeartbeats 800000 in
theorem eqFetch_same (wa wa2 : Option Addr) (wc wc2 : Nat) (W : List Wn) (fa fa2 : Option Addr) (fc fc2 : Nat) (F : List Int) (ca ca2 : Option Addr) (cc cc2 n : Nat) (D : Nat → Int) (P : Nat → List Int) (w : World) (h : RdF w wa W fa F ca D P n) (h2 : RdF w wa2 W fa2 F ca2 D P n) (hW : W.length ≤ 1048576) (hF : F.length ≤ 1048576) (hn : n ≤ 1048576) (hP : ∀ i, i < n → (P i).length ≤ 1048576) :
    Calls Tryz.prog 27 #[fetV wa W.length wc fa F.length fc ca n cc, fetV wa2 W.length wc2 fa2 F.length fc2 ca2 n cc2] w fun e w' => e = .returned (.bool true) ∧ Below w.heap.size w w' := by
  have HA := hide h
  have HB := hide h2
  have HP := hide hP
  clear h h2 hP
  unfold fetV
  have B0 := hide (below_next (below_alloc w (.cells #[.slice wa W.length wc, .slice fa F.length fc, .slice ca n cc] 28)) (below_alloc _ (.cells #[.slice wa2 W.length wc2, .slice fa2 F.length fc2, .slice ca2 n cc2] 28)))
  have X0 := hide ((Bx3.new w (.slice wa W.length wc) (.slice fa F.length fc) (.slice ca n cc) 28).below (below_alloc _ (.cells #[.slice wa2 W.length wc2, .slice fa2 F.length fc2, .slice ca2 n cc2] 28)))
  have Y0 := hide (Bx3.new (w.alloc (.cells #[.slice wa W.length wc, .slice fa F.length fc, .slice ca n cc] 28)) (.slice wa2 W.length wc2) (.slice fa2 F.length fc2) (.slice ca2 n cc2) 28)
  have hs : (w.alloc (.cells #[.slice wa W.length wc, .slice fa F.length fc, .slice ca n cc] 28)).heap.size = w.heap.size + 1 := by simp
  rw [hs] at Y0
  clear hs
  go_enter Tryz.func27, Tryz.ntmps27
  go_wp2_with fail
  generalize (w.alloc (.cells #[.slice wa W.length wc, .slice fa F.length fc, .slice ca n cc] 28)).alloc (.cells #[.slice wa2 W.length wc2, .slice fa2 F.length fc2, .slice ca2 n cc2] 28) = W0 at *
  refine (eqWantS_same wa wa2 wc wc2 W W0 (HA.out.wants.below B0.out) (HB.out.wants.below B0.out) hW).mono ?_
  rintro e w1 ⟨rfl, hb1⟩
  have B1 := hide (below_next B0.out hb1)
  obtain ⟨⟨x0, x1, x2⟩, -, -, -⟩ := X0.out.below hb1
  obtain ⟨⟨y0, y1, y2⟩, -, -, -⟩ := Y0.out.below hb1
  have BX1 := hide hb1
  clear hb1
  go_wp2_with fail
  clear x0 x1 x2 y0 y1 y2
  refine (eqInt64S_b fa fa2 fc fc2 F w1 (HA.out.failed.below B1.out) (HB.out.failed.below B1.out) hF).mono ?_
  rintro e w2 ⟨rfl, hb2⟩
  have B2 := hide (below_next B1.out hb2)
  obtain ⟨⟨x0, x1, x2⟩, -, -, -⟩ := X0.out.below (below_next BX1.out hb2)
  obtain ⟨⟨y0, y1, y2⟩, -, -, -⟩ := Y0.out.below (below_next BX1.out hb2)
  clear hb2
  go_wp2_with fail
  clear x0 x1 x2 y0 y1 y2
  refine (eqChunkS_same ca ca2 cc cc2 n D P w2 (HA.out.chunks.below B2.out) (HB.out.chunks.below B2.out) hn HP.out).mono ?_
  rintro e w3 ⟨rfl, hb3⟩
  have B3 := hide (below_next B2.out hb3)
  clear hb3
  go_wp2_with fail
  go_ret
  exact ⟨rfl, B3.out⟩
theorem trod_three {H : Type} {enc : TypeId × Value → H} {P : Program} {w : World} {base : Nat} {spare : Nat → Bool} {held : Bool} {t : TypeId} {f0 f1 f2 : Field} {fuel : Nat} {cs : List Value} {x : DataW H × List MemPlace}
    (he : P.underlying t = some (.struct #[f0, f1, f2])) (ce : P.cellsOf t = 3) (o0 : f0.offset = 0) (o1 : f1.offset = 1) (o2 : f2.offset = 2)
    (c0 : P.cellsOf f0.type = 1) (c1 : P.cellsOf f1.type = 1) (c2 : P.cellsOf f2.type = 1) (h : DataW.trod enc P w base spare held fuel t cs = some x) :
    ∃ (v0 v1 v2 : Value) (n : Nat) (y0 y1 y2 : DataW H × List MemPlace), cs = [v0, v1, v2] ∧ DataW.trod enc P w base spare held n f0.type [v0] = some y0 ∧ DataW.trod enc P w base spare held n f1.type [v1] = some y1 ∧ DataW.trod enc P w base spare held n f2.type [v2] = some y2 := by
  obtain ⟨xs, k, hk, hxy, hlen, hxl, hf⟩ := DataW.trod_struct he h
  rw [ce] at hlen
  match xs, hxl, cs, hlen with
  | [y0, y1, y2], _, [v0, v1, v2], _ =>
    have g0 := hf 0 f0 rfl
    have g1 := hf 1 f1 rfl
    have g2 := hf 2 f2 rfl
    simp [o0, o1, o2, c0, c1, c2] at g0 g1 g2
    exact ⟨v0, v1, v2, k, y0, y1, y2, rfl, g0, g1, g2⟩
theorem rdW_of_trod {H : Type} {enc : TypeId × Value → H} {W : World} {a : Option Addr} {n c fuel : Nat} {x : DataW H × List MemPlace}
    (h : DataW.trod enc Tryz.prog W 0 (fun _ => true) true fuel 48 [.slice a n c] = some x) : ∃ Ws : List Wn, Ws.length = n ∧ RdW W a Ws ∧ n ≤ maxLen := by
  rcases Deep.open_slice_pairs Tryz.underlying48 Tryz.underlying146 (by kernel_rfl) rfl rfl (by kernel_rfl) (by kernel_rfl) h with ⟨hcs, _⟩ | ⟨x, l, cp, m, fu, V0, V1, D0, D1, P0, P1, hcs, _, hl, hm, hmm, _, hx⟩
  · simp at hcs
    obtain ⟨rfl, rfl, rfl⟩ := hcs
    exact ⟨[], rfl, fun h => absurd rfl h, Nat.zero_le _⟩
  · simp at hcs
    obtain ⟨rfl, rfl, rfl⟩ := hcs
    simp only [if_true] at hmm
    subst hmm
    have each : ∀ i, i < n → ∃ q : Wn, V0 i = .int .i64 q.1 ∧ V1 i = .int .i64 q.2 := by
      intro i hi
      obtain ⟨c0, c1, t0, t1⟩ := hx i (by omega)
      obtain ⟨z, hz, _, hw⟩ := DataW.trod_int Tryz.underlying2 t0
      obtain ⟨z2, hz2, _, hw2⟩ := DataW.trod_int Tryz.underlying2 t1
      simp at hz hz2
      exact ⟨(z, z2), hz, hz2⟩
    obtain ⟨q, hq⟩ := Deep.choose_lt each
    have hg : ∀ i, i < n → ((List.range n).map q).getD i (0, 0) = q i := fun i hi => by simp [List.getD_eq_getElem?_getD, hi]
    refine ⟨(List.range n).map q, by simp, ?_, by omega⟩
    intro hne
    have hn : 0 < n := by
      rcases Nat.eq_zero_or_pos n with h | h
      · subst h; exact absurd rfl hne
      · exact h
    obtain ⟨b, off, spot⟩ := x
    have hc0 := (hx 0 (by omega)).1
    have hspot : spot = none := by simpa [Addr.add] using World.cell?_spot hc0
    subst hspot
    refine ⟨b, off, rfl, World.block_lt_of_cell? W _ (by simpa [Addr.add] using hc0), fun i hi => ?_⟩
    have hi : i < n := by simpa using hi
    obtain ⟨c0, c1, _, _⟩ := hx i (by omega)
    obtain ⟨e0, e1⟩ := hq i hi
    have ea : ∀ t, (⟨b, off, none⟩ : Addr).add t = ⟨b, off + t, none⟩ := fun t => by unfold Addr.add; split <;> simp_all
    rw [ea, e0] at c0
    rw [ea, e1] at c1
    rw [hg i hi]
    exact ⟨c0, by rw [Nat.add_assoc]; exact c1⟩
theorem fetch_of_trod {H : Type} {enc : TypeId × Value → H} {W : World} {fuel : Nat} {cs : List Value} {x : DataW H × List MemPlace}
    (h : DataW.trod enc Tryz.prog W 0 (fun _ => true) true fuel 51 cs = some x) :
    ∃ (wa : Option Addr) (wc : Nat) (Ws : List Wn) (fa : Option Addr) (fc : Nat) (F : List Int) (ca : Option Addr) (cc n : Nat) (D : Nat → Int) (P : Nat → List Int), cs = [.slice wa Ws.length wc, .slice fa F.length fc, .slice ca n cc] ∧ RdF W wa Ws fa F ca D P n ∧ (Ws.length ≤ maxLen ∧ F.length ≤ maxLen ∧ n ≤ maxLen) ∧ ∀ i, i < n → (Lit.int .i64 (D i)).wf = true ∧ U8 (P i) ∧ (P i).length ≤ maxLen := by
  obtain ⟨v0, v1, v2, m, y0, y1, y2, rfl, g0, g1, g2⟩ := trod_three Tryz.underlying51 (by kernel_rfl) rfl rfl rfl (by kernel_rfl) (by kernel_rfl) (by kernel_rfl) h
  obtain ⟨a0, n0, k0, e0⟩ : ∃ a n k, v0 = .slice a n k := by
    rcases Deep.open_slice_pairs Tryz.underlying48 Tryz.underlying146 (by kernel_rfl) rfl rfl (by kernel_rfl) (by kernel_rfl) g0 with ⟨hcs, _⟩ | ⟨x, l, cp, m, fu, V0, V1, D0, D1, P0, P1, hcs, _⟩
    · simp at hcs; exact ⟨_, _, _, hcs⟩
    · simp at hcs; exact ⟨_, _, _, hcs⟩
  obtain ⟨a1, n1, k1, e1⟩ : ∃ a n k, v1 = .slice a n k := by
    rcases open_ints Tryz.underlying25 Tryz.underlying2 (by kernel_rfl) g1 with ⟨hcs, _⟩ | ⟨x, l, c, zs, hcs, _⟩
    · simp at hcs; exact ⟨_, _, _, hcs⟩
    · simp at hcs; exact ⟨_, _, _, hcs⟩
  obtain ⟨a2, n2, k2, e2⟩ : ∃ a n k, v2 = .slice a n k := by
    rcases Deep.open_slice_pairs Tryz.underlying49 Tryz.underlying143 (by kernel_rfl) rfl rfl (by kernel_rfl) (by kernel_rfl) g2 with ⟨hcs, _⟩ | ⟨x, l, cp, m, fu, V0, V1, D0, D1, P0, P1, hcs, _⟩
    · simp at hcs; exact ⟨_, _, _, hcs⟩
    · simp at hcs; exact ⟨_, _, _, hcs⟩
  subst e0 e1 e2
  obtain ⟨Ws, rfl, hw, hm0⟩ := rdW_of_trod g0
  obtain ⟨F, rfl, hf, -, hm1⟩ := ints_of_trod g1
  obtain ⟨D, P, hc, hm2, hin⟩ := rdC_of_trod g2
  exact ⟨a0, k0, Ws, a1, k1, F, a2, k2, n2, D, P, rfl, ⟨hw, hf, hc⟩, ⟨hm0, hm1, hm2⟩, hin⟩
end Go.Proofs.YtfamiehfpmjljaaGreatDoor

namespace Go.Proofs.YtfamiehfpmjljaaGreatDoor
open Go.RowKit Go.Extern.Stop Go.Stop Go.Extern
set_option linter.unusedVariables false

theorem as_nil (t : Value) (w : World) : Calls Tryz.prog 95 #[.nilIface, t] w fun e w' => e = .returned (.bool false) ∧ w' = w := by
  go_enter Tryz.func95, Tryz.ntmps95
  go_wp2
  go_ret
  exact ⟨rfl, rfl⟩
theorem rl_valueOfP (t : Addr) (w : World) : (ReflectliteValue.unpack (.iface 134 (.pointer (some t)))).run Tryz.prog w
    = .ok (.agg #[.pointer (some ⟨4, 134, none⟩), .pointer (some ⟨w.heap.size, 0, none⟩), .int .u64 150]) (w.alloc (.cells #[.pointer (some t)] 134)) := by kernel_rfl
theorem rl_typeP (a : Addr) (w : World) : (ReflectliteValue.methodAny (ReflectliteValue.valueError "reflectlite.Value.Type" 0) (fun t _ _ _ => ReflectliteType.toType t) #[.agg #[.pointer (some ⟨4, 134, none⟩), .pointer (some a), .int .u64 150]]).run Tryz.prog w
    = .ok (.iface 189 (.agg #[.pointer (some ⟨4, 134, none⟩)])) w := by kernel_rfl
theorem rl_methodKind (h : Value) (w : World) : (Go.method 395 189 (.agg #[h]) "Kind").run Tryz.prog w = .ok (218, h) w := by kernel_rfl
theorem rl_kindP (w : World) : ((ReflectliteType.abiMethod fun t => (fun a : Nat => Value.int IntKind.u8 (a : Int)) <$> Rtype.kind t) #[.pointer (some ⟨4, 134, none⟩)]).run Tryz.prog w = .ok (.int .u8 22) w := by kernel_rfl
theorem rl_kindS (w : World) : ((ReflectliteType.abiMethod fun t => (fun a : Nat => Value.int IntKind.u8 (a : Int)) <$> Rtype.kind t) #[.pointer (some ⟨4, 131, none⟩)]).run Tryz.prog w = .ok (.int .u8 25) w := by kernel_rfl
theorem rl_m (z : Sem Value) (f : TypeId → Addr → Nat → Nat → Sem Value) (v : Value) :
    ReflectliteValue.method z f #[v] = (do match ← ReflectliteValue.parts v with | none => z | some (t, a, fl) => f t a fl (fl % 32)) := rfl
theorem rl_partsP (a : Addr) (w : World) : (ReflectliteValue.parts (.agg #[.pointer (some ⟨4, 134, none⟩), .pointer (some a), .int .u64 150])).run Tryz.prog w = .ok (some (134, a, 150)) w := by kernel_rfl
theorem rl_isNilP (a p : Addr) (W : World) (ha : W.cell? a = some (.pointer (some p))) :
    (ReflectliteValue.method (ReflectliteValue.valueError "reflectlite.Value.IsNil" 0) ReflectliteValue.isNil #[.agg #[.pointer (some ⟨4, 134, none⟩), .pointer (some a), .int .u64 150]]).run Tryz.prog W = .ok (.bool false) W := by
  rw [rl_m]
  simp only [Sem.run_bind, rl_partsP, Result.andThen]
  simp [ReflectliteValue.isNil, loadVar, isAgg, underlying, Tryz.underlying134, ha, Result.andThen]
theorem rl_methodElem (h : Value) (w : World) : (Go.method 395 189 (.agg #[h]) "Elem").run Tryz.prog w = .ok (228, .agg #[h]) w := by kernel_rfl
theorem rl_methodImplements (h : Value) (w : World) : (Go.method 395 189 (.agg #[h]) "Implements").run Tryz.prog w = .ok (229, .agg #[h]) w := by kernel_rfl
theorem rl_methodAssignableTo (h : Value) (w : World) : (Go.method 395 189 (.agg #[h]) "AssignableTo").run Tryz.prog w = .ok (226, .agg #[h]) w := by kernel_rfl
theorem rl_elemP (w : World) : (ReflectliteType.method ReflectliteType.elem #[.agg #[.pointer (some ⟨4, 134, none⟩)]]).run Tryz.prog w = .ok (.iface 189 (.agg #[.pointer (some ⟨4, 131, none⟩)])) w := by kernel_rfl
theorem rl_implementsS (w : World) : (ReflectliteType.relation "Implements" ReflectliteType.implements_ #[.agg #[.pointer (some ⟨4, 131, none⟩)], .iface 189 (.agg #[.pointer (some ⟨4, 76, none⟩)])]).run Tryz.prog w = .ok (.bool true) w := by kernel_rfl
theorem rl_typeOfS (v : Value) (w : World) : (ReflectliteType.typeOf #[.iface 131 v]).run Tryz.prog w = .ok (.iface 189 (.agg #[.pointer (some ⟨4, 131, none⟩)])) w := by kernel_rfl
theorem rl_typeOfE (v : Value) (w : World) : (ReflectliteType.typeOf #[.iface 262 v]).run Tryz.prog w = .ok (.iface 189 (.agg #[.pointer (some ⟨4, 262, none⟩)])) w := by kernel_rfl
theorem rl_assignableS (w : World) : (ReflectliteType.relation "AssignableTo" ReflectliteType.assignableTo #[.agg #[.pointer (some ⟨4, 131, none⟩)], .iface 189 (.agg #[.pointer (some ⟨4, 131, none⟩)])]).run Tryz.prog w = .ok (.bool true) w := by kernel_rfl
theorem rl_assignableE (w : World) : (ReflectliteType.relation "AssignableTo" ReflectliteType.assignableTo #[.agg #[.pointer (some ⟨4, 262, none⟩)], .iface 189 (.agg #[.pointer (some ⟨4, 131, none⟩)])]).run Tryz.prog w = .ok (.bool false) w := by kernel_rfl
theorem rl_valueOfS (d : Int) (w : World) : (ReflectliteValue.unpack (.iface 131 (.agg #[.int .i64 d]))).run Tryz.prog w
    = .ok (.agg #[.pointer (some ⟨4, 131, none⟩), .pointer (some ⟨w.heap.size, 0, none⟩), .int .u64 153]) (w.alloc (.cells #[.int .i64 d] 131)) := by kernel_rfl
theorem rl_elemOfP (w : World) : (Rtype.elem? 134).run Tryz.prog w = .ok (some 131) w := by kernel_rfl
theorem rl_mkS (p : Addr) (w : World) : (ReflectliteValue.mk 131 p ReflectliteValue.flagAddr).run Tryz.prog w = .ok (.agg #[.pointer (some ⟨4, 131, none⟩), .pointer (some p), .int .u64 409]) w := by kernel_rfl
theorem rl_elemVP (a p : Addr) (W : World) (ha : W.cell? a = some (.pointer (some p))) :
    (ReflectliteValue.method (ReflectliteValue.valueError "reflectlite.Value.Elem" 0) ReflectliteValue.elem #[.agg #[.pointer (some ⟨4, 134, none⟩), .pointer (some a), .int .u64 150]]).run Tryz.prog W
      = .ok (.agg #[.pointer (some ⟨4, 131, none⟩), .pointer (some p), .int .u64 409]) W := by
  rw [rl_m]
  simp only [Sem.run_bind, rl_partsP, Result.andThen]
  simp [ReflectliteValue.elem, loadVar, isAgg, underlying, Tryz.underlying134, ha, Result.andThen, rl_elemOfP, rl_mkS]
theorem rl_s : ∃ s1 s2 s3 s4 s5 : String, ∀ v x : Value, ReflectliteValue.set #[v, x] = (do
    let (some (dst, a, fl), some (src, b, _)) := (← ReflectliteValue.parts v, ← ReflectliteValue.parts x)
      | unsupported (.noEntry s1)
    if fl / ReflectliteValue.flagAddr % 2 == 0 then unsupported (.noEntry s2)
    let val ← loadVar src b
    if ← Rtype.directlyAssignable dst src then storeVar dst a val
    else if ← Rtype.implements dst src then
      if (← Rtype.kind src) == 20 then
        match val with
        | .nilIface => unsupported (.noEntry s3)
        | _ => storeVar dst a val
      else storeVar dst a (.iface src val)
    else panicString (s4 ++ (← Rtype.spelt src) ++ s5 ++ (← Rtype.spelt dst))
    pure (.tuple #[])) := ⟨_, _, _, _, _, fun _ _ => rfl⟩
theorem rl_partsSa (a : Addr) (w : World) : (ReflectliteValue.parts (.agg #[.pointer (some ⟨4, 131, none⟩), .pointer (some a), .int .u64 409])).run Tryz.prog w = .ok (some (131, a, 409)) w := by kernel_rfl
theorem rl_partsS (a : Addr) (w : World) : (ReflectliteValue.parts (.agg #[.pointer (some ⟨4, 131, none⟩), .pointer (some a), .int .u64 153])).run Tryz.prog w = .ok (some (131, a, 153)) w := by kernel_rfl
theorem rl_directS (w : World) : (Rtype.directlyAssignable 131 131).run Tryz.prog w = .ok true w := by kernel_rfl
theorem rl_setS (tb tq bb : Nat) (d : Int) (old : Value) (W : World) (hb : W.cell? ⟨bb, 0, none⟩ = some (.int .i64 d)) (ht : W.cell? ⟨tb, tq, none⟩ = some old) (hf : W.frozen? ⟨tb, tq, none⟩ = false) :
    (ReflectliteValue.set #[.agg #[.pointer (some ⟨4, 131, none⟩), .pointer (some ⟨tb, tq, none⟩), .int .u64 409], .agg #[.pointer (some ⟨4, 131, none⟩), .pointer (some ⟨bb, 0, none⟩), .int .u64 153]]).run Tryz.prog W
      = .ok (.tuple #[]) (W.setCell ⟨tb, tq, none⟩ (.int .i64 d)) := by
  have hl : (loadCells ⟨bb, 0, none⟩ 1).run Tryz.prog W = .ok #[.int .i64 d] W := by
    have h1 := run_loadCells_list (P := Tryz.prog) W ⟨bb, 0, none⟩ [.int .i64 d] (by
      intro j u hj
      have hj0 : j = 0 := by
        rcases Nat.eq_zero_or_pos j with h | h
        · exact h
        · rw [List.getElem?_eq_none (by simp; omega)] at hj; cases hj
      subst hj0
      obtain rfl : Value.int .i64 d = u := by simpa using hj
      have hadd : (⟨bb, 0, none⟩ : Addr).add 0 = ⟨bb, 0, none⟩ := by simp [Addr.add]
      rw [hadd]
      exact hb)
    simpa using h1
  obtain ⟨s1, s2, s3, s4, s5, hs⟩ := rl_s
  rw [hs]
  simp only [Sem.run_bind, rl_partsSa, rl_partsS, Result.andThen]
  simp [ReflectliteValue.flagAddr, loadVar, isAgg, underlying, Tryz.underlying131, hl, Result.andThen, rl_directS, storeVar, Value.cells, storeCells, Addr.add]
  rw [run_store Tryz.prog W ⟨tb, tq, none⟩ _ _ (by rfl)]
  simp [ht, hf]
set_option maxRecDepth 100000 in
set_option maxHeartbeats 4000000 in
theorem as_hit (d : Int) (tb : Nat) (old : Value) (w : World) (hg : w.cell? ⟨2, 0, none⟩ = some (.iface 189 (.agg #[.pointer (some ⟨4, 76, none⟩)]))) (ht0 : w.cell? ⟨tb, 0, none⟩ = some old) (hf0 : w.frozen? ⟨tb, 0, none⟩ = false) :
    Calls Tryz.prog 95 #[.iface 131 (.agg #[.int .i64 d]), .iface 134 (.pointer (some ⟨tb, 0, none⟩))] w fun ev w' => ev = .returned (.bool true) ∧ w'.cell? ⟨tb, 0, none⟩ = some (.int .i64 d) ∧ w'.frozen? ⟨tb, 0, none⟩ = false ∧ Kept (fun b => b = tb) w w' := by
  have h6 := @run_callFunc_extern Tryz.prog 121 _ (fun args => ReflectliteValue.unpack (args.getD 0 (.tuple #[]))) Tryz.func121 (by kernel_rfl) (by kernel_rfl) (by kernel_rfl) (by kernel_rfl)
  have h7 := @run_callFunc_extern Tryz.prog 122 _ (ReflectliteValue.methodAny (ReflectliteValue.valueError "reflectlite.Value.Type" 0) (fun t _ _ _ => ReflectliteType.toType t)) Tryz.func122 (by kernel_rfl) (by kernel_rfl) (by kernel_rfl) (by kernel_rfl)
  have h8 := @run_callFunc_extern Tryz.prog 123 _ (ReflectliteValue.method (ReflectliteValue.valueError "reflectlite.Value.IsNil" 0) ReflectliteValue.isNil) Tryz.func123 (by kernel_rfl) (by kernel_rfl) (by kernel_rfl) (by kernel_rfl)
  have h27 := @run_callFunc_extern Tryz.prog 218 _ (ReflectliteType.abiMethod fun t => do pure (.int .u8 (← Rtype.kind t))) Tryz.func218 (by kernel_rfl) (by kernel_rfl) (by kernel_rfl) (by kernel_rfl)
  have h37 := @run_callFunc_extern Tryz.prog 228 _ (ReflectliteType.method ReflectliteType.elem) Tryz.func228 (by kernel_rfl) (by kernel_rfl) (by kernel_rfl) (by kernel_rfl)
  have h38 := @run_callFunc_extern Tryz.prog 229 _ (ReflectliteType.relation "Implements" ReflectliteType.implements_) Tryz.func229 (by kernel_rfl) (by kernel_rfl) (by kernel_rfl) (by kernel_rfl)
  have h10 := @run_callFunc_extern Tryz.prog 140 _ ReflectliteType.typeOf Tryz.func140 (by kernel_rfl) (by kernel_rfl) (by kernel_rfl) (by kernel_rfl)
  have h35 := @run_callFunc_extern Tryz.prog 226 _ (ReflectliteType.relation "AssignableTo" ReflectliteType.assignableTo) Tryz.func226 (by kernel_rfl) (by kernel_rfl) (by kernel_rfl) (by kernel_rfl)
  have h11 := @run_callFunc_extern Tryz.prog 146 _ (ReflectliteValue.method (ReflectliteValue.valueError "reflectlite.Value.Elem" 0) ReflectliteValue.elem) Tryz.func146 (by kernel_rfl) (by kernel_rfl) (by kernel_rfl) (by kernel_rfl)
  have h12 := @run_callFunc_extern Tryz.prog 147 _ ReflectliteValue.set Tryz.func147 (by kernel_rfl) (by kernel_rfl) (by kernel_rfl) (by kernel_rfl)
  have tO := rl_typeOfS
  have mA := rl_methodAssignableTo
  have a25 := rl_assignableS
  have v25 := rl_valueOfS
  have f6 := rl_valueOfP
  have f7 := rl_typeP
  have mK := rl_methodKind
  have mE := rl_methodElem
  have mI := rl_methodImplements
  have k27 := rl_kindP
  have k25 := rl_kindS
  have e27 := rl_elemP
  have i25 := rl_implementsS
  let A1 : Obj := .cells #[.pointer (some ⟨tb, 0, none⟩)] 134
  let A2 : Obj := .cells #[.pointer (some ⟨4, 134, none⟩), .pointer (some ⟨w.heap.size, 0, none⟩), .int .u64 150] 160
  let A4 : Obj := .cells #[.int .i64 d] 131
  have hlt : 2 < w.heap.size := World.block_lt_of_cell? w ⟨2, 0, none⟩ hg
  have htl : tb < w.heap.size := World.block_lt_of_cell? w ⟨tb, 0, none⟩ ht0
  have n8 := rl_isNilP ⟨w.heap.size, 0, none⟩ ⟨tb, 0, none⟩ ((w.alloc A1).alloc A2) (by simp [A1, A2])
  have hg2 : ((w.alloc A1).alloc A2).cell? ⟨2, 0, none⟩ = some (.iface 189 (.agg #[.pointer (some ⟨4, 76, none⟩)])) := by
    rw [World.cell?_alloc_lt _ _ ⟨2, 0, none⟩ (by simp; omega), World.cell?_alloc_lt _ _ ⟨2, 0, none⟩ hlt]; exact hg
  have el := rl_elemVP ⟨w.heap.size, 0, none⟩ ⟨tb, 0, none⟩ (((w.alloc A1).alloc A2).alloc A2) (by rw [World.cell?_alloc_lt _ _ ⟨w.heap.size, 0, none⟩ (by simp; omega)]; simp [A1, A2])
  have st := rl_setS tb 0 (w.heap.size + 1 + 1 + 1) d old ((((w.alloc A1).alloc A2).alloc A2).alloc A4)
    (by rw [World.cell?_alloc_at _ _ _ _ (by simp)]; rfl)
    (by rw [World.cell?_alloc_lt _ _ ⟨tb, 0, none⟩ (by simp; omega), World.cell?_alloc_lt _ _ ⟨tb, 0, none⟩ (by simp; omega), World.cell?_alloc_lt _ _ ⟨tb, 0, none⟩ (by simp; omega), World.cell?_alloc_lt _ _ ⟨tb, 0, none⟩ htl]; exact ht0)
    (by rw [World.frozen?_alloc_old _ _ ⟨tb, 0, none⟩ (by simp; omega), World.frozen?_alloc_old _ _ ⟨tb, 0, none⟩ (by simp; omega), World.frozen?_alloc_old _ _ ⟨tb, 0, none⟩ (by simp; omega), World.frozen?_alloc_old _ _ ⟨tb, 0, none⟩ (Nat.ne_of_lt htl)]; exact hf0)
  have BB := hide (below_next (below_next (below_next (below_alloc w A1) (below_alloc _ A2)) (below_alloc _ A2)) (below_alloc _ A4))
  have HT0 := hide ht0
  have HF0 := hide hf0
  have fin : Hid ((((((w.alloc A1).alloc A2).alloc A2).alloc A4).setCell ⟨tb, 0, none⟩ (.int .i64 d)).cell? ⟨tb, 0, none⟩ = some (.int .i64 d) ∧ (((((w.alloc A1).alloc A2).alloc A2).alloc A4).setCell ⟨tb, 0, none⟩ (.int .i64 d)).frozen? ⟨tb, 0, none⟩ = false ∧ Kept (fun b => b = tb) w (((((w.alloc A1).alloc A2).alloc A2).alloc A4).setCell ⟨tb, 0, none⟩ (.int .i64 d))) := hide ⟨cell_set_same ((BB.out.cell (p := ⟨tb, 0, none⟩) htl).trans HT0.out), by rw [World.frozen?_setCell]; exact (BB.out.frozen (p := ⟨tb, 0, none⟩) htl).trans HF0.out, (Kept.of_below BB.out).trans (Kept.one _ _ _ _)⟩
  simp only [A1, A2, A4] at n8 hg2 el st fin
  clear BB HT0 HF0 A1 A2 A4
  go_enter Tryz.func95, Tryz.ntmps95
  go_wp2
  refine wp_loop_rounds 1 ?_
  rw [rounds_succ]
  go_wp2
  go_ret
  exact ⟨rfl, fin.out⟩
end Go.Proofs.YtfamiehfpmjljaaGreatDoor

namespace Go.Proofs.YtfamiehfpmjljaaGreatDoor
open Go.RowKit Go.Extern.Stop Go.Stop Go.Extern
set_option linter.unusedVariables false

structure Ge (w : World) (a0 a1 : Addr) : Prop where
  e0 : w.cell? ⟨0, 0, none⟩ = some (.iface 262 (.pointer (some a0)))
  e1 : w.cell? ⟨1, 0, none⟩ = some (.iface 262 (.pointer (some a1)))
  ty : w.cell? ⟨2, 0, none⟩ = some (.iface 189 (.agg #[.pointer (some ⟨4, 76, none⟩)]))
  ne : a0 ≠ a1
  b0 : ∃ ca ta, w.heap[a0.block]? = some (.cells ca ta (0, 0))
  b1 : ∃ ca ta, w.heap[a1.block]? = some (.cells ca ta (0, 0))
theorem Ge.below {w w' : World} {a0 a1 : Addr} (h : Ge w a0 a1) (hb : Below w.heap.size w w') : Ge w' a0 a1 := by
  obtain ⟨h0, h1, h2, h3, ⟨c0, t0, h4⟩, c1, t1, h5⟩ := h
  have l0 := World.block_lt_of_cell? w _ h0
  have l1 := World.block_lt_of_cell? w _ h1
  have l2 := World.block_lt_of_cell? w _ h2
  have k0 : a0.block < w.heap.size := by
    rcases Nat.lt_or_ge a0.block w.heap.size with h | h
    · exact h
    · rw [Array.getElem?_eq_none h] at h4; cases h4
  have k1 : a1.block < w.heap.size := by
    rcases Nat.lt_or_ge a1.block w.heap.size with h | h
    · exact h
    · rw [Array.getElem?_eq_none h] at h5; cases h5
  exact ⟨(hb.cell l0).trans h0, (hb.cell l1).trans h1, (hb.cell l2).trans h2, h3, ⟨c0, t0, (hb.block _ k0).trans h4⟩, c1, t1, (hb.block _ k1).trans h5⟩
theorem no_As (v : Value) (xT : TypeId) (w : World) : (Instr.typeAssert (.iface 262 v) xT 193 true).run Tryz.prog w = .ok (.tuple #[.nilIface, .bool false]) w := run_typeAssert_lacksB Tryz.underlying193 (by kernel_rfl) (by kernel_rfl) v xT w
theorem no_Is (v : Value) (xT : TypeId) (w : World) : (Instr.typeAssert (.iface 262 v) xT 217 true).run Tryz.prog w = .ok (.tuple #[.nilIface, .bool false]) w := run_typeAssert_lacksB Tryz.underlying217 (by kernel_rfl) (by kernel_rfl) v xT w
theorem no_Unwrap (v : Value) (xT : TypeId) (w : World) : (Instr.typeAssert (.iface 262 v) xT 196 true).run Tryz.prog w = .ok (.tuple #[.nilIface, .bool false]) w := run_typeAssert_lacksB Tryz.underlying196 (by kernel_rfl) (by kernel_rfl) v xT w
theorem no_Unwraps (v : Value) (xT : TypeId) (w : World) : (Instr.typeAssert (.iface 262 v) xT 198 true).run Tryz.prog w = .ok (.tuple #[.nilIface, .bool false]) w := run_typeAssert_lacksB Tryz.underlying198 (by kernel_rfl) (by kernel_rfl) v xT w
set_option maxRecDepth 100000 in
set_option maxHeartbeats 4000000 in
theorem as_miss (ea : Addr) (tb : Nat) (old : Value) (w : World) (hg : w.cell? ⟨2, 0, none⟩ = some (.iface 189 (.agg #[.pointer (some ⟨4, 76, none⟩)]))) (ht0 : w.cell? ⟨tb, 0, none⟩ = some old) :
    Calls Tryz.prog 95 #[.iface 262 (.pointer (some ea)), .iface 134 (.pointer (some ⟨tb, 0, none⟩))] w fun ev w' => ev = .returned (.bool false) ∧ Below w.heap.size w w' := by
  have h6 := @run_callFunc_extern Tryz.prog 121 _ (fun args => ReflectliteValue.unpack (args.getD 0 (.tuple #[]))) Tryz.func121 (by kernel_rfl) (by kernel_rfl) (by kernel_rfl) (by kernel_rfl)
  have h7 := @run_callFunc_extern Tryz.prog 122 _ (ReflectliteValue.methodAny (ReflectliteValue.valueError "reflectlite.Value.Type" 0) (fun t _ _ _ => ReflectliteType.toType t)) Tryz.func122 (by kernel_rfl) (by kernel_rfl) (by kernel_rfl) (by kernel_rfl)
  have h8 := @run_callFunc_extern Tryz.prog 123 _ (ReflectliteValue.method (ReflectliteValue.valueError "reflectlite.Value.IsNil" 0) ReflectliteValue.isNil) Tryz.func123 (by kernel_rfl) (by kernel_rfl) (by kernel_rfl) (by kernel_rfl)
  have h27 := @run_callFunc_extern Tryz.prog 218 _ (ReflectliteType.abiMethod fun t => do pure (.int .u8 (← Rtype.kind t))) Tryz.func218 (by kernel_rfl) (by kernel_rfl) (by kernel_rfl) (by kernel_rfl)
  have h37 := @run_callFunc_extern Tryz.prog 228 _ (ReflectliteType.method ReflectliteType.elem) Tryz.func228 (by kernel_rfl) (by kernel_rfl) (by kernel_rfl) (by kernel_rfl)
  have h38 := @run_callFunc_extern Tryz.prog 229 _ (ReflectliteType.relation "Implements" ReflectliteType.implements_) Tryz.func229 (by kernel_rfl) (by kernel_rfl) (by kernel_rfl) (by kernel_rfl)
  have h10 := @run_callFunc_extern Tryz.prog 140 _ ReflectliteType.typeOf Tryz.func140 (by kernel_rfl) (by kernel_rfl) (by kernel_rfl) (by kernel_rfl)
  have h35 := @run_callFunc_extern Tryz.prog 226 _ (ReflectliteType.relation "AssignableTo" ReflectliteType.assignableTo) Tryz.func226 (by kernel_rfl) (by kernel_rfl) (by kernel_rfl) (by kernel_rfl)
  have tO := rl_typeOfE
  have mA := rl_methodAssignableTo
  have a25 := rl_assignableE
  have f6 := rl_valueOfP
  have f7 := rl_typeP
  have mK := rl_methodKind
  have mE := rl_methodElem
  have mI := rl_methodImplements
  have k27 := rl_kindP
  have k25 := rl_kindS
  have e27 := rl_elemP
  have i25 := rl_implementsS
  have nA := no_As
  have nU := no_Unwrap
  have nV := no_Unwraps
  let A1 : Obj := .cells #[.pointer (some ⟨tb, 0, none⟩)] 134
  let A2 : Obj := .cells #[.pointer (some ⟨4, 134, none⟩), .pointer (some ⟨w.heap.size, 0, none⟩), .int .u64 150] 160
  have hlt : 2 < w.heap.size := World.block_lt_of_cell? w ⟨2, 0, none⟩ hg
  have n8 := rl_isNilP ⟨w.heap.size, 0, none⟩ ⟨tb, 0, none⟩ ((w.alloc A1).alloc A2) (by simp [A1, A2])
  have hg2 : ((w.alloc A1).alloc A2).cell? ⟨2, 0, none⟩ = some (.iface 189 (.agg #[.pointer (some ⟨4, 76, none⟩)])) := by
    rw [World.cell?_alloc_lt _ _ ⟨2, 0, none⟩ (by simp; omega), World.cell?_alloc_lt _ _ ⟨2, 0, none⟩ hlt]; exact hg
  have fin : Hid (Below w.heap.size w (((w.alloc A1).alloc A2).alloc A2)) := hide (below_next (below_next (below_alloc w A1) (below_alloc _ A2)) (below_alloc _ A2))
  simp only [A1, A2] at n8 hg2 fin
  clear A1 A2
  go_enter Tryz.func95, Tryz.ntmps95
  go_wp2
  refine wp_loop_rounds 1 ?_
  rw [rounds_succ]
  go_wp2
  go_ret
  exact ⟨rfl, fin.out⟩
def cmpF : Array Value → Sem Value := Extern.ReflectliteType.method fun t => do Go.Extern.Rtype.noPackHeld "Comparable" t; pure (.bool (← typeInfo t).comparable)
theorem is_comparable (w : World) : (cmpF #[.agg #[.pointer (some ⟨4, 262, none⟩)]]).run Tryz.prog w = .ok (.bool true) w := by kernel_rfl
theorem is_methodComparable (v : Value) (w : World) : (Go.method 395 189 v "Comparable").run Tryz.prog w = .ok (227, v) w := by kernel_rfl
theorem is_comp : (Tryz.prog.info? 262).map (·.comparable) = some true := by kernel_rfl
theorem is_size : (Tryz.prog.info? 283).map (·.size) = some 1 := by kernel_rfl
set_option maxRecDepth 100000 in
set_option maxHeartbeats 4000000 in
theorem is_same (a : Addr) (w : World) : Calls Tryz.prog 116 #[.iface 262 (.pointer (some a)), .iface 262 (.pointer (some a))] w fun e w' => e = .returned (.bool true) ∧ w' = w := by
  obtain ⟨i, hi, hcmp⟩ := Option.map_eq_some_iff.1 is_comp
  obtain ⟨j, hj, hjs⟩ := Option.map_eq_some_iff.1 is_size
  have h8 := @run_callFunc_extern Tryz.prog 140 _ ReflectliteType.typeOf Tryz.func140 (by kernel_rfl) (by kernel_rfl) (by kernel_rfl) (by kernel_rfl)
  have h32 := @run_callFunc_extern Tryz.prog 227 _ cmpF Tryz.func227 (by kernel_rfl) (by kernel_rfl) (by kernel_rfl) (by kernel_rfl)
  have tT := rl_typeOfE
  have cT := is_comparable
  have mR := is_methodComparable
  have heq := run_eql_iface_ptr_same (P := Tryz.prog) w a Tryz.underlying76 Tryz.underlying262 hi hcmp hj
  go_enter Tryz.func116, Tryz.ntmps116
  go_wp2
  refine wp_loop_rounds 1 ?_
  rw [rounds_succ]
  go_wp2
  go_ret
  exact ⟨rfl, rfl⟩
set_option maxRecDepth 100000 in
set_option maxHeartbeats 4000000 in
theorem is_other (a b : Addr) (ca cb : Array Value) (ta tb : TypeId) (w : World) (hne : a ≠ b) (ha : w.heap[a.block]? = some (.cells ca ta (0, 0))) (hb : w.heap[b.block]? = some (.cells cb tb (0, 0))) :
    Calls Tryz.prog 116 #[.iface 262 (.pointer (some a)), .iface 262 (.pointer (some b))] w fun e w' => e = .returned (.bool false) ∧ w' = w := by
  obtain ⟨i, hi, hcmp⟩ := Option.map_eq_some_iff.1 is_comp
  obtain ⟨j, hj, hjs⟩ := Option.map_eq_some_iff.1 is_size
  have h8 := @run_callFunc_extern Tryz.prog 140 _ ReflectliteType.typeOf Tryz.func140 (by kernel_rfl) (by kernel_rfl) (by kernel_rfl) (by kernel_rfl)
  have h32 := @run_callFunc_extern Tryz.prog 227 _ cmpF Tryz.func227 (by kernel_rfl) (by kernel_rfl) (by kernel_rfl) (by kernel_rfl)
  have tT := rl_typeOfE
  have cT := is_comparable
  have mR := is_methodComparable
  have nE := no_Is
  have uE := no_Unwrap
  have vE := no_Unwraps
  have heq := run_eql_iface_ptr_other (P := Tryz.prog) w Tryz.underlying76 Tryz.underlying262 hi hcmp hj (by rw [hjs]; decide) hne ha hb
  go_enter Tryz.func116, Tryz.ntmps116
  go_wp2
  refine wp_loop_rounds 1 ?_
  rw [rounds_succ]
  go_wp2
  go_ret
  exact ⟨rfl, rfl⟩
set_option maxHeartbeats 800000 in
theorem isFailure_no (ea : Addr) (a0 a1 : Addr) (w : World) (hg : Ge w a0 a1) :
    Calls Tryz.prog 102 #[.iface 262 (.pointer (some ea))] w fun e w' => e = .returned (.bool false) ∧ Below w.heap.size w w' := by
  have hg1 := hg.below (below_alloc w (.cells #[.int .i64 0] 131))
  have HC := hide (as_miss ea w.heap.size (.int .i64 0) _ hg1.ty (by simp))
  clear hg hg1
  go_enter Tryz.func102, Tryz.ntmps102
  go_wp2_with fail
  refine HC.out.mono ?_
  rintro e w1 ⟨rfl, hb⟩
  have B1 := hide (below_next (below_alloc w (.cells #[.int .i64 0] 131)) hb)
  clear hb
  go_wp2_with fail
  go_ret
  exact ⟨rfl, B1.out⟩
set_option maxHeartbeats 800000 in
theorem fetchCode_unwanted (a0 a1 : Addr) (w : World) (hg : Ge w a0 a1) :
    Calls Tryz.prog 85 #[.iface 262 (.pointer (some a0))] w fun e w' => e = .returned (.int .i64 4) ∧ Below w.heap.size w w' := by
  have HC := hide (isFailure_no a0 a0 a1 w hg)
  have HG := hide hg
  clear hg
  go_enter Tryz.func85, Tryz.ntmps85
  go_wp2_with fail
  refine HC.out.mono ?_
  rintro e w1 ⟨rfl, hb⟩
  have B1 := hide hb
  have g0 := (HG.out.below hb).e0
  clear hb
  go_wp2_with fail
  refine (is_same a0 _).mono ?_
  rintro e w1 ⟨rfl, rfl⟩
  go_wp2_with fail
  go_ret
  exact ⟨rfl, B1.out⟩
set_option maxHeartbeats 800000 in
theorem fetchCode_noRoom (a0 a1 : Addr) (w : World) (hg : Ge w a0 a1) :
    Calls Tryz.prog 85 #[.iface 262 (.pointer (some a1))] w fun e w' => e = .returned (.int .i64 2) ∧ Below w.heap.size w w' := by
  have HC := hide (isFailure_no a1 a0 a1 w hg)
  have HG := hide hg
  clear hg
  go_enter Tryz.func85, Tryz.ntmps85
  go_wp2_with fail
  refine HC.out.mono ?_
  rintro e w1 ⟨rfl, hb⟩
  have B1 := hide hb
  have hg1 := HG.out.below hb
  have g0 := hg1.e0
  obtain ⟨c0, t0, q0⟩ := hg1.b0
  obtain ⟨c1, t1, q1⟩ := hg1.b1
  have HI := hide (is_other a1 a0 c1 c0 t1 t0 w1 (fun e => hg1.ne e.symm) q1 q0)
  clear hb hg1 q0 q1
  go_wp2_with fail
  refine HI.out.mono ?_
  rintro e w1 ⟨rfl, rfl⟩
  go_wp2_with fail
  go_ret
  exact ⟨rfl, B1.out⟩
end Go.Proofs.YtfamiehfpmjljaaGreatDoor

