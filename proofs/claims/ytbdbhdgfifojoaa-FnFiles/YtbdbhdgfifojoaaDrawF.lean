/-
  The model's draws of a file's entry; what a file's entry is.
-/
import Derived.Test.YtbdbhdgfifojoaaDrawP
import Derived.Test.YtbdbhdgfifojoaaEntJ
namespace Go.Proofs.Ytbdbhdgfifojoaa
open Go.RowKit Go.Maps
set_option linter.unusedVariables false
attribute [local go_sem ↓] Go.wp_at_zero Go.wp_at_succ

set_option maxRecDepth 100000 in
set_option maxHeartbeats 800000 in
theorem lwNums_e (a b : Option Addr) (c1 c2 : Nat) (ms : List Int) (w : World) (h : Reads .i64 w a ms) (h2 : Reads .i64 w b ms) (hl : ms.length ≤ 1048576) :
    Calls Try.prog 30 #[.slice a ms.length c1, .slice b ms.length c2] w fun e w' => e = .returned (.bool true) ∧ Below w.heap.size w w' := by
  have HA := hide h
  have HB := hide h2
  clear h h2
  go_enter Try.func30, Try.ntmps30
  go_wp2
  go_loopw [5] (fun i wr => ∃ k : Nat, k ≤ ms.length ∧ i = .int .i64 k ∧ Below w.heap.size w wr) (fun i _ => ms.length - (intOf i).toNat)
  case atStart => exact ⟨0, Nat.zero_le _, rfl, Below.refl _ _⟩
  case round =>
    obtain ⟨k, hk, rfl, hbel⟩ := hrel
    have HW := hide hbel
    clear hbel
    by_cases hlt : k < ms.length
    · have h0 : ms ≠ [] := fun e => by subst e; simp at hlt
      obtain ⟨b1, o1, rfl, hb1, hc1⟩ := (HA.out.below HW.out) h0
      obtain ⟨b2, o2, rfl, hb2, hc2⟩ := (HB.out.below HW.out) h0
      have e1 := hc1 k hlt
      have e2 := hc2 k hlt
      generalize ms.getD k 0 = z at e1 e2
      have hk0 : (0 : Int) ≤ (k : Int) := by omega
      have hk1 : (k : Int) < (ms.length : Int) := by omega
      have hzz : (z != z) = false := by simp
      clear hc1 hc2 h0
      go_wp2
      go_quiet (fail)
      go_wp2
      go_roundw
      case rel => exact ⟨k + 1, by omega, by go_num, below_drewN HW.out _⟩
      case measure => simp [intOf]; omega
    · have hke : k = ms.length := by omega
      subst hke
      go_wp2
      go_ret
      exact ⟨rfl, HW.out⟩

theorem fileE_right {p : Bs} {zs : List Int} (hp : faultP p = 0) (hl : zs.length ≤ 24) : entFault (fileE p zs) = 0 := by
  have h1 : formE (fileE p zs) = true := decide_eq_true ⟨by simp [fileE], .inl rfl⟩
  have h2 : sizeE (fileE p zs) = true := decide_eq_true (by simp [fileE]; omega)
  have h3 : manyE (fileE p zs) = true := decide_eq_true (by show ((digs zs (cut zs).length).length : Int) = ((zs.length : Int) + 7) / 8; rw [digs_len, cut_length]; omega)
  rw [entFault_digs hp h1 h2 h3, if_pos]
  rw [List.all_eq_true]
  intro z hz
  simp only [fileE, digs, List.mem_map] at hz
  obtain ⟨i, _, rfl⟩ := hz
  exact decide_eq_true (digest_range _)
theorem row_one (w : World) (z : Int) : (w.alloc (.cells #[.int .u8 z] 5)).ownsRow w.heap.size 5 1 (.slice (some ⟨w.heap.size, 0, none⟩) 1 1) 1 ([z].map (Value.int .u8)) :=
  ⟨rfl, .inr ⟨w.heap.size, 1, #[.int .u8 z], rfl, Nat.le_refl _, heap_alloc_new w _, Nat.le_refl _, by decide, rfl, rfl⟩⟩
set_option maxRecDepth 100000 in
set_option maxHeartbeats 800000 in
theorem drawFileEntry_any (a : Option Addr) (cap : Nat) (zs : List Int) (w : World) (h : Reads .u8 w a zs) (hu : U8 zs) (hl : zs.length ≤ 1048576) :
    Calls Try.prog 42 #[.slice a zs.length cap] w fun e w' => ∃ (x : Bs) (v : Value) (ds : List Int), e = .returned (.tuple #[.string (str x), v]) ∧ x.length ≤ 9 ∧ ds.length ≤ 25 ∧ U8 ds ∧ w'.ownsRow w.heap.size 5 1 v ds.length (ds.map (Value.int .u8)) ∧ Below w.heap.size w w' := by
  obtain ⟨i0, hi0, hz0, hz1, hz2⟩ := info_parts Try.infoU8
  have HR := hide h
  have HU := hide hu
  clear h hu
  go_enter Try.func42, Try.ntmps42
  go_wp2_with fail
  refine (l1Source_any a cap zs _ HR.out).mono ?_
  rintro e w1 ⟨rfl, s1, z1, b1⟩
  have S1 := hide s1
  have B1 := hide b1
  clear s1 b1 z1
  go_wp2_with fail
  refine (l3Bent_any w.heap.size zs 0 _ S1.out HU.out (by decide) (by decide) hl).mono ?_
  rintro e w2 ⟨x, rfl, hxl, k2⟩
  have B2 := hide (B1.out.trans (k2.below (B := w.heap.size) B1.out.size (fun b hb e => by omega)))
  have hs2 := B2.out.size
  clear k2 S1 B1
  have RD := hide ((HR.out.below B2.out).below (below_alloc w2 (.cells #[.int .u8 4] 5)))
  have OWN := hide (row_one w2 4)
  have hm1 : 1 + zs.length ≤ maxLen := by unfold maxLen; omega
  have hm2 : (1 + zs.length) * 1 ≤ 140737488355328 := by omega
  go_wp2_with (at_builtin; refine wpList_append_take rfl (.tmp 9) (.tmp 10) 22 rfl w2.heap.size 5 i0 .u8 1 Try.underlying22 hi0 hz0 hz1 hz2 w2.heap.size 1 1 [4] rfl OWN.out a zs.length cap zs rfl rfl RD.out (1 + zs.length) rfl hm1 hm2 (by simp) ?_; intro av cv w3 hown3 hk3; have O3 := hide hown3; have B3 := hide ((below_next B2.out (below_alloc w2 (.cells #[.int .u8 4] 5))).trans (hk3.below (B := w.heap.size) (by simp; omega) (fun b hb e => by have : b = w2.heap.size := e; omega))); clear hown3 hk3)
  have hle : ([4] ++ zs).length = 1 + zs.length := by simp; omega
  have RD3 := hide (ownInts_reads (zs := [4] ++ zs) O3.out hle.symm)
  have HU4 := hide (show U8 ([4] ++ zs) from fun z hz => by
    rcases List.mem_append.1 hz with hz | hz
    · simp only [List.mem_singleton] at hz; subst hz; omega
    · exact HU.out z hz)
  rw [← hle]
  refine (l1Data_big av cv ([4] ++ zs) _ RD3.out HU4.out (by rw [hle]; omega)).mono ?_
  rintro e w4 ⟨v, ds, rfl, hdl, hdu, ho4, hb4⟩
  have hs3 := B3.out.size
  have O4 := hide (ownsRow_mono (base' := w.heap.size) ho4 (by omega))
  have B4 := hide (below_next B3.out hb4)
  have DU := hide hdu
  clear ho4 hb4 hdu hle
  go_wp2_with fail
  go_ret2
  exact ⟨x, v, ds, rfl, hxl, hdl, DU.out, O4.out, B4.out⟩

end Go.Proofs.Ytbdbhdgfifojoaa
