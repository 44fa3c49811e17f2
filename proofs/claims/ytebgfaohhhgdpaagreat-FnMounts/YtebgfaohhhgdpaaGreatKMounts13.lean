/-
  Texts put together: Draw DrawP DrawS DrawE DrawG DrawJ.
-/
import Derived.Test.YtebgfaohhhgdpaaGreatKMounts4
import Derived.Test.YtebgfaohhhgdpaaGreatKMounts1
import Derived.Test.YtebgfaohhhgdpaaGreatKMounts8
import Derived.Test.YtebgfaohhhgdpaaGreatKMounts7
import Derived.Test.YtebgfaohhhgdpaaGreatKMounts6
import Derived.Deep.RegionLaw
import Derived.Test.YtebgfaohhhgdpaaGreatKMounts12
import Derived.Deep.RegionWith
namespace Go.Proofs.YtebgfaohhhgdpaaGreat
open Go.RowKit
set_option linter.unusedVariables false

def Src (w : World) (p : Nat) (zs : List Int) (t : Int) : Prop :=
  ∃ a c, w.cell? ⟨p, 0, none⟩ = some (.slice a zs.length c) ∧ w.cell? ⟨p, 1, none⟩ = some (.int .i64 t) ∧ w.frozen? ⟨p, 1, none⟩ = false ∧ Reads .u8 w a zs ∧ (zs ≠ [] → ∀ x, a = some x → x.block < p)

theorem Src.step {w : World} {p : Nat} {zs : List Int} {t : Int} (h : Src w p zs t) (s : Int) : Src (w.setCell ⟨p, 1, none⟩ (.int .i64 s)) p zs s ∧ Kept (fun b => b = p) w (w.setCell ⟨p, 1, none⟩ (.int .i64 s)) := by
  obtain ⟨a, c, q0, q1, q2, hr, hap⟩ := h
  have hk : Kept (fun b => b = p) w (w.setCell ⟨p, 1, none⟩ (.int .i64 s)) := Kept.setCell (S := fun b => b = p) (p := ⟨p, 1, none⟩) (Kept.refl _ w) (fun _ => rfl) _
  refine ⟨⟨a, c, ?_, cell_set_same q1, by rw [World.frozen?_setCell]; exact q2, hr.kept hk (fun hz x hx e => by have := hap hz x hx; omega), hap⟩, hk⟩
  rw [cell_set_other (by intro e; have := congrArg Addr.off e; simp at this)]; exact q0

theorem Src.drewN {w : World} {p : Nat} {zs : List Int} {t : Int} (h : Src w p zs t) (n : Nat) : Src (w.drewN n) p zs t := h

theorem Src.kept {S : Nat → Prop} {w w' : World} {p : Nat} {zs : List Int} {t : Int} (h : Src w p zs t) (hk : Kept S w w') (hS : ∀ b, b ≤ p → ¬ S b) : Src w' p zs t := by
  obtain ⟨a, c, q0, q1, q2, hr, hap⟩ := h
  have hlt := World.block_lt_of_cell? w ⟨p, 0, none⟩ q0
  have hp := hS p (Nat.le_refl _)
  exact ⟨a, c, (hk.cell (p := ⟨p, 0, none⟩) hlt hp).trans q0, (hk.cell (p := ⟨p, 1, none⟩) hlt hp).trans q1, (hk.frozen (p := ⟨p, 1, none⟩) hlt hp).trans q2, hr.kept hk (fun hz x hx => hS _ (Nat.le_of_lt (hap hz x hx))), hap⟩

theorem Src.below {w w' : World} {p : Nat} {zs : List Int} {t : Int} (h : Src w p zs t) (hk : Below w.heap.size w w') : Src w' p zs t :=
  Src.kept (S := fun _ => False) h (Kept.of_below hk) (fun _ _ => id)
theorem Src.lt {w : World} {p : Nat} {zs : List Int} {t : Int} (h : Src w p zs t) : p < w.heap.size := by
  obtain ⟨a, c, q0, _⟩ := h
  exact World.block_lt_of_cell? w ⟨p, 0, none⟩ q0

theorem rem_bd (v n : Int) (hn : 1 ≤ n) : 0 ≤ v % n ∧ v % n < n := ⟨Int.emod_nonneg _ (by omega), Int.emod_lt_of_pos _ (by omega)⟩
theorem mod_bd (t : Int) (k : Nat) (hk : 0 < k) : 0 ≤ t % (k : Int) ∧ t % (k : Int) < (k : Int) := ⟨Int.emod_nonneg _ (by omega), Int.emod_lt_of_pos _ (by omega)⟩
theorem div_bd (t : Int) (k : Nat) (h0 : 0 ≤ t) : 0 ≤ t / (k : Int) ∧ t / (k : Int) ≤ t := ⟨Int.ediv_nonneg h0 (by omega), Int.ediv_le_self _ h0⟩

set_option maxHeartbeats 1600000 in
theorem l1Next_big (p : Nat) (zs : List Int) (t n : Int) (w : World) (h : Src w p zs t) (hu : U8 zs) (ht0 : 0 ≤ t) (ht1 : t ≤ 1099511627776) (hn0 : 1 ≤ n) (hn1 : n ≤ 2147483648) (hl : zs.length ≤ 2097152) :
    Calls Tryz.prog 64 #[.pointer (some ⟨p, 0, none⟩), .int .i64 n] w fun e w' => ∃ r, e = .returned (.int .i64 r) ∧ 0 ≤ r ∧ r < n ∧ Src w' p zs (t + 1) ∧ Kept (fun b => b = p) w w' := by
  have HS := hide (h.step (t + 1))
  obtain ⟨a, c, q0, q1, q2, hr, hap⟩ := h
  by_cases hz : zs = []
  · have hn : zs.length = 0 := by rw [hz]; rfl
    rw [hn] at q0
    have hmod : 0 ≤ t * 7 % n ∧ t * 7 % n < n := ⟨Int.emod_nonneg _ (by omega), Int.emod_lt_of_pos _ (by omega)⟩
    have HM := hide hmod
    clear hmod hr hap hz hn
    go_enter Tryz.func64, Tryz.ntmps64
    go_wp2
    go_ret
    exact ⟨_, rfl, HM.out.1, HM.out.2, HS.out.1, HS.out.2⟩
  · obtain ⟨b, off, rfl, hb, hc⟩ := hr hz
    have hlen : 0 < zs.length := List.length_pos_iff.2 hz
    have hne : ((zs.length : Int) == 0) = false := by simp; omega
    have hbp : b ≠ p := by have := hap hz _ rfl; simp at this; omega
    obtain ⟨m0, m1⟩ := mod_bd t zs.length hlen
    obtain ⟨m2, m3⟩ := mod_bd (t + 1) zs.length hlen
    obtain ⟨d0, d1⟩ := div_bd t zs.length ht0
    have hz1 := hu.get (t % (zs.length : Int)).toNat
    have hz2 := hu.get ((t + 1) % (zs.length : Int)).toNat
    have c1 := hc (t % (zs.length : Int)).toNat (by omega)
    have c2 := hc ((t + 1) % (zs.length : Int)).toNat (by omega)
    generalize zs.getD (t % (zs.length : Int)).toNat 0 = z1 at hz1 c1
    generalize zs.getD ((t + 1) % (zs.length : Int)).toNat 0 = z2 at hz2 c2
    generalize hW : w.setCell ⟨p, 1, none⟩ (.int .i64 (t + 1)) = W at HS
    have k0 : W.cell? ⟨p, 0, none⟩ = some (.slice (some ⟨b, off, none⟩) zs.length c) := by rw [← hW, cell_set_other (by intro e; have := congrArg Addr.off e; simp at this)]; exact q0
    have k1 : W.cell? ⟨p, 1, none⟩ = some (.int .i64 (t + 1)) := by rw [← hW]; exact cell_set_same q1
    have k2 : W.cell? ⟨b, off + (t % (zs.length : Int)).toNat, none⟩ = some (.int .u8 z1) := by rw [← hW]; exact cell_set_far (fun e => hbp e.symm) c1
    have k3 : W.cell? ⟨b, off + ((t + 1) % (zs.length : Int)).toNat, none⟩ = some (.int .u8 z2) := by rw [← hW]; exact cell_set_far (fun e => hbp e.symm) c2
    have HW := hide hW
    clear hW c1 c2 hc hr hap hz
    by_cases h200 : 200 < n
    · go_enter Tryz.func64, Tryz.ntmps64
      go_wp2
      rw [HW.out]
      go_quiet (fail)
      go_wp2
      go_quiet (fail)
      go_wp2
      go_ret
      exact ⟨_, rfl, (rem_bd _ n hn0).1, (rem_bd _ n hn0).2, HS.out.1.drewN _, HS.out.2.drewN _⟩
    · go_enter Tryz.func64, Tryz.ntmps64
      go_wp2
      rw [HW.out]
      go_quiet (fail)
      go_wp2
      go_ret
      exact ⟨_, rfl, (rem_bd _ n hn0).1, (rem_bd _ n hn0).2, HS.out.1.drewN _, HS.out.2.drewN _⟩
set_option maxHeartbeats 400000 in
theorem l1Source_any (a : Option Addr) (cap : Nat) (zs : List Int) (w : World) (h : Reads .u8 w a zs) :
    Calls Tryz.prog 63 #[.slice a zs.length cap] w fun e w' => e = .returned (.pointer (some ⟨w.heap.size, 0, none⟩)) ∧ Src w' w.heap.size zs 0 ∧ w'.heap.size = w.heap.size + 1 ∧ Below w.heap.size w w' := by
  have HR := hide h
  clear h
  go_enter Tryz.func63, Tryz.ntmps63
  go_wp2
  go_ret
  refine ⟨rfl, ⟨a, cap, by simp, by simp, by simp, HR.out.below (below_alloc _ _), fun hz x hx => ?_⟩, by simp, below_alloc _ _⟩
  obtain ⟨b, off, rfl, hb, _⟩ := HR.out hz
  simp at hx
  subst hx
  exact hb

set_option maxHeartbeats 800000 in
theorem l1Pick_big (p g c m : Nat) (vs : List Int) (zs : List Int) (t : Int) (w : World) (h : Src w p zs t) (hu : U8 zs) (ht0 : 0 ≤ t) (ht1 : t ≤ 1099511627776) (hl : zs.length ≤ 2097152)
    (hm0 : 0 < m) (hm1 : m ≤ 1000) (hm : m = vs.length) (hg : g ≠ p) (hgl : g < w.heap.size) (hc : ∀ i, i < m → w.cell? ⟨g, i, none⟩ = some (.int .i64 (vs.getD i 0))) :
    Calls Tryz.prog 73 #[.pointer (some ⟨p, 0, none⟩), .slice (some ⟨g, 0, none⟩) m c] w fun e w' => ∃ v, v ∈ vs ∧ e = .returned (.int .i64 v) ∧ Src w' p zs (t + 1) ∧ Kept (fun b => b = p) w w' := by
  have HS := hide h
  have HU := hide hu
  have HC := hide hc
  have HM := hide hm
  clear h hu hc hm
  go_enter Tryz.func73, Tryz.ntmps73
  go_wp2_with fail
  refine (l1Next_big p zs t _ _ HS.out HU.out ht0 ht1 (by omega) (by omega) hl).mono ?_
  rintro e w1 ⟨r, rfl, r0, r1, s1, k1⟩
  obtain ⟨j, rfl⟩ := Int.eq_ofNat_of_zero_le r0
  have hj : j < m := by omega
  have hcj := HC.out j hj
  have hmem : vs.getD j 0 ∈ vs := by
    have hj2 : j < vs.length := by have := HM.out; omega
    have e : vs.getD j 0 = vs[j] := by simp [List.getD_eq_getElem?_getD, hj2]
    rw [e]; exact List.getElem_mem hj2
  generalize vs.getD j 0 = v at hcj hmem
  have hc1 : w1.cell? ⟨g, j, none⟩ = some (.int .i64 v) := (k1.cell (p := ⟨g, j, none⟩) hgl hg).trans hcj
  have S1 := hide s1
  have K1 := hide k1
  have M1 := hide hmem
  clear s1 k1 hcj hmem
  go_wp2_with fail
  go_ret
  exact ⟨v, M1.out, rfl, S1.out, K1.out⟩
set_option maxHeartbeats 800000 in
theorem l1Some_big (p : Nat) (n : Nat) (zs : List Int) (t : Int) (w : World) (h : Src w p zs t) (hu : U8 zs) (ht0 : 0 ≤ t) (ht1 : t ≤ 549755813888) (hl : zs.length ≤ 2097152) (hn : n ≤ 1048576) (hp : p < w.heap.size) :
    Calls Tryz.prog 67 #[.pointer (some ⟨p, 0, none⟩), .int .i64 n] w fun e w' => ∃ a c ds, e = .returned (.slice a n c) ∧ ds.length = n ∧ U8 ds ∧ w'.ownsRow w.heap.size 5 1 (.slice a n c) n (ds.map (Value.int .u8)) ∧ Src w' p zs (t + n) ∧ Kept (fun b => b = p) w w' := by
  obtain ⟨i0, hi, hz0, hz1, hz2⟩ := info_parts Tryz.infoU8
  have HS := hide (h.below (below_alloc w (.cells #[] 5)))
  have HU := hide hu
  clear h hu
  go_enter Tryz.func67, Tryz.ntmps67
  go_wp2
  go_loopw [1, 5] (fun q v wr => ∃ j : Nat, ∃ ds : List Int, j ≤ n ∧ q = .int .i64 ((n : Int) - j) ∧ ds.length = j ∧ U8 ds ∧ wr.ownsRow w.heap.size 5 1 v j (ds.map (Value.int .u8)) ∧ Src wr p zs (t + j) ∧ Kept (fun b => b = p) w wr) (fun q _ _ => (intOf q).toNat)
  case atStart => exact ⟨0, [], Nat.zero_le _, by simp, rfl, fun z hz => by simp at hz, World.ownsRow_made w #[] 0 (Nat.le_refl _) (Nat.zero_le _) rfl, by simpa using HS.out, (Kept.refl _ _).alloc _⟩
  case round =>
    obtain ⟨j, ds, hj, rfl, hds, hU, hown, hsrc, hkept⟩ := hrel
    by_cases hlt : j < n
    · have hgt : (0 : Int) < (n : Int) - j := by omega
      have hsz := hkept.size
      have hm1 : j + 1 ≤ maxLen := by unfold maxLen; omega
      have hm2 : (j + 1) * 1 ≤ 140737488355328 := by omega
      have H1 := hide hds
      have H2 := hide hU
      have H3 := hide hown
      have H4 := hide hsrc
      have H5 := hide hkept
      clear hds hU hown hsrc hkept
      go_wp2_with (first | (go_at_call 64; refine (l1Next_big p zs _ _ _ H4.out HU.out (by omega) (by omega) (by omega) (by omega) hl).mono ?_; rintro e w1 ⟨r, rfl, r0, r1, s1, k1⟩; have S1 := hide s1; have K1 := hide k1; have O1 := hide (ownsRow_kept H3.out k1 (fun b hb e => by have := (H3.out.lt b hb).1; omega)); have hsz1 : w.heap.size ≤ w1.heap.size := Nat.le_trans hsz k1.size; clear s1 k1) | (at_builtin; refine wpList_append_one rfl (.tmp 11) (.tmp 16) 22 rfl w.heap.size 5 i0 (.int .u8 0) 1 1 Tryz.underlying22 hi hz0 hz1 hz2 rfl (by decide) _ _ _ rfl O1.out rfl rfl (by intro u hu; simp at hu; subst hu; rfl) hm1 hm2 hsz1 ?_; intro v' w2 hown2 hkept2; have O2 := hide hown2; have K2 := hide hkept2; clear hown2 hkept2))
      have hp1 : ∀ b, b ≤ p → ¬ (u5.ownBlock = some b) := fun b hb e => by have := (H3.out.lt b e).1; omega
      go_roundw
      case rel =>
        refine ⟨j + 1, ds ++ [97 + r], by omega, by go_num, by simp [H1.out], fun z hz => ?_, by simpa using O2.out, ?_, ?_⟩
        · rcases List.mem_append.1 hz with hz | hz
          · exact H2.out z hz
          · simp at hz; omega
        · have := S1.out.kept K2.out hp1
          rwa [show t + (j : Int) + 1 = t + ((j + 1 : Nat) : Int) from by omega] at this
        · exact (H5.out.trans K1.out).trans_own K2.out (fun b hb e => by have := (O1.out.lt b e).1; omega)
      case measure => simp [intOf]; omega
    · have hje : j = n := by omega
      subst hje
      obtain ⟨av, cv, rfl⟩ := ownsRow_shape hown
      have hz : ¬ (0 : Int) < (j : Int) - j := by omega
      go_wp2
      go_ret
      exact ⟨av, cv, rfl, ds, hds, hU, hown, hsrc, hkept⟩
theorem cells4 (w : World) (a b c d : Int) (t : TypeId) : ∀ i, i < 4 → (w.alloc (.cells #[.int .i64 a, .int .i64 b, .int .i64 c, .int .i64 d] t)).cell? ⟨w.heap.size, i, none⟩ = some (.int .i64 ([a, b, c, d].getD i 0)) := by
  intro i hi
  match i, hi with
  | 0, _ | 1, _ | 2, _ | 3, _ => simp
set_option maxHeartbeats 800000 in
theorem l1Data_big (a : Option Addr) (cap : Nat) (zs : List Int) (w : World) (h : Reads .u8 w a zs) (hu : U8 zs) (hl : zs.length ≤ 2097152) :
    Calls Tryz.prog 25 #[.slice a zs.length cap] w fun e w' => ∃ v ds, e = .returned v ∧ ds.length ≤ 25 ∧ U8 ds ∧ w'.ownsRow w.heap.size 5 1 v ds.length (ds.map (Value.int .u8)) ∧ Below w.heap.size w w' := by
  have HR := hide h
  have HU := hide hu
  clear h hu
  go_enter Tryz.func25, Tryz.ntmps25
  go_wp2_with fail
  refine (l1Source_any a cap zs _ HR.out).mono ?_
  rintro e w1 ⟨rfl, s1, z1, b1⟩
  have S1 := hide s1
  have B1 := hide b1
  have Z1 := hide z1
  clear s1 b1 z1
  generalize hp : w.heap.size = p at *
  have HP := hide hp
  clear hp
  go_wp2_with fail
  refine (l1Next_big p zs 0 25 _ S1.out HU.out (by decide) (by decide) (by decide) (by decide) hl).mono ?_
  rintro e w2 ⟨r1, rfl, r10, r11, s2, k2⟩
  have S2 := hide s2
  have B2 := hide (B1.out.trans (k2.below (B := p) (Nat.le_of_lt S1.out.lt) (fun b hb e => by omega)))
  clear s2 k2 S1 B1
  go_wp2_with fail
  refine (l1Next_big p zs _ 10 _ S2.out HU.out (by decide) (by decide) (by decide) (by decide) hl).mono ?_
  rintro e w3 ⟨r2, rfl, r20, r21, s3, k3⟩
  have S3 := hide s3
  have B3 := hide (B2.out.trans (k3.below (B := p) (Nat.le_of_lt S2.out.lt) (fun b hb e => by omega)))
  clear s3 k3 S2 B2
  go_wp2_with fail
  have hp3 := S3.out.lt
  refine (l1Pick_big p w3.heap.size 4 4 [r1, r2, 24, 25] zs _ _ (S3.out.below (below_alloc _ _)) HU.out (by decide) (by decide) hl (by decide) (by decide) rfl (by omega) (by simp) (cells4 _ _ _ _ _ _)).mono ?_
  rintro e w4 ⟨v, hv, rfl, s4, k4⟩
  have hv2 : 0 ≤ v ∧ v ≤ 25 := by simp at hv; omega
  obtain ⟨n, rfl⟩ := Int.eq_ofNat_of_zero_le hv2.1
  have S4 := hide s4
  have B4 := hide ((B3.out.trans ((below_alloc w3 (.cells #[.int .i64 r1, .int .i64 r2, .int .i64 24, .int .i64 25] 2)).mono (Nat.le_of_lt hp3))).trans (k4.below (B := p) (by simp; omega) (fun b hb e => by omega)))
  clear s4 k4 S3 B3 hv
  go_wp2_with fail
  have hp4 := S4.out.lt
  refine (l1Some_big p n zs _ _ S4.out HU.out (by decide) (by decide) hl (by omega) hp4).mono ?_
  rintro e w5 ⟨av, cv, ds, rfl, hds, hU, hown, s5, k5⟩
  have O5 := hide hown
  have U5 := hide hU
  have D5 := hide hds
  have B5 := hide (B4.out.trans (k5.below (B := p) (Nat.le_of_lt hp4) (fun b hb e => by omega)))
  clear hown hU hds s5 k5 S4 B4
  go_wp2_with fail
  go_ret
  refine ⟨_, ds, rfl, by have := D5.out; omega, U5.out, ?_, by rw [HP.out]; exact B5.out⟩
  rw [D5.out, HP.out]
  exact ownsRow_mono O5.out (Nat.le_of_lt hp4)
end Go.Proofs.YtebgfaohhhgdpaaGreat

namespace Go.Proofs.YtebgfaohhhgdpaaGreat
open Go.RowKit
set_option linter.unusedVariables false

theorem cells5' (w : World) (a b c d e : Int) (t : TypeId) : ∀ i, i < 5 → (w.alloc (.cells #[.int .i64 a, .int .i64 b, .int .i64 c, .int .i64 d, .int .i64 e] t)).cell? ⟨w.heap.size, i, none⟩ = some (.int .i64 ([a, b, c, d, e].getD i 0)) := by
  intro i hi
  match i, hi with
  | 0, _ | 1, _ | 2, _ | 3, _ | 4, _ => simp
theorem join_small : ∀ (ns : List Bs), (∀ n ∈ ns, n.length ≤ 2) → (joinB ns).length ≤ 3 * ns.length
  | [], _ => by simp [joinB]
  | n :: ns, h => by
    have := join_small ns (fun m hm => h m (by simp [hm]))
    have := h n (by simp)
    simp [joinB]; omega

end Go.Proofs.YtebgfaohhhgdpaaGreat

namespace Go.Proofs.YtebgfaohhhgdpaaGreat
open Go.RowKit Go.Maps
set_option linter.unusedVariables false

def SrcX (w : World) (p : Nat) (zs : List Int) (T : Int) : Prop := ∃ t, 0 ≤ t ∧ t ≤ T ∧ Src w p zs t
theorem SrcX.kept {S : Nat → Prop} {w w' : World} {p : Nat} {zs : List Int} {T : Int} (h : SrcX w p zs T) (hk : Kept S w w') (hS : ∀ b, b ≤ p → ¬ S b) : SrcX w' p zs T := by
  obtain ⟨t, h0, h1, hs⟩ := h
  exact ⟨t, h0, h1, hs.kept hk hS⟩
theorem SrcX.below {w w' : World} {p : Nat} {zs : List Int} {T : Int} (h : SrcX w p zs T) (hk : Below w.heap.size w w') : SrcX w' p zs T := by
  obtain ⟨t, h0, h1, hs⟩ := h
  exact ⟨t, h0, h1, hs.below hk⟩
theorem SrcX.lt {w : World} {p : Nat} {zs : List Int} {T : Int} (h : SrcX w p zs T) : p < w.heap.size := by
  obtain ⟨t, _, _, hs⟩ := h
  exact hs.lt
theorem SrcX.mono {w : World} {p : Nat} {zs : List Int} {T T' : Int} (h : SrcX w p zs T) (hT : T ≤ T') : SrcX w p zs T' := by
  obtain ⟨t, h0, h1, hs⟩ := h
  exact ⟨t, h0, by omega, hs⟩
theorem next_e (p : Nat) (zs : List Int) (T n : Int) (w : World) (h : SrcX w p zs T) (hu : U8 zs) (hT : T ≤ 1000000) (hn0 : 1 ≤ n) (hn1 : n ≤ 1000) (hl : zs.length ≤ 2097152) :
    Calls Tryz.prog 64 #[.pointer (some ⟨p, 0, none⟩), .int .i64 n] w fun e w' => ∃ r : Nat, e = .returned (.int .i64 r) ∧ (r : Int) < n ∧ SrcX w' p zs (T + 1) ∧ Kept (fun b => b = p) w w' := by
  obtain ⟨t, h0, h1, hs⟩ := h
  refine (l1Next_big p zs t n w hs hu h0 (by omega) hn0 (by omega) hl).mono ?_
  rintro e w' ⟨r, rfl, r0, r1, s1, k1⟩
  exact ⟨r.toNat, by rw [Int.toNat_of_nonneg r0], by omega, ⟨t + 1, by omega, by omega, s1⟩, k1⟩
theorem pick_e (p g c m : Nat) (vs : List Int) (zs : List Int) (T : Int) (w : World) (h : SrcX w p zs T) (hu : U8 zs) (hT : T ≤ 1000000) (hl : zs.length ≤ 2097152)
    (hm0 : 0 < m) (hm1 : m ≤ 1000) (hm : m = vs.length) (hg : g ≠ p) (hgl : g < w.heap.size) (hc : ∀ i, i < m → w.cell? ⟨g, i, none⟩ = some (.int .i64 (vs.getD i 0))) :
    Calls Tryz.prog 73 #[.pointer (some ⟨p, 0, none⟩), .slice (some ⟨g, 0, none⟩) m c] w fun e w' => ∃ v, v ∈ vs ∧ e = .returned (.int .i64 v) ∧ SrcX w' p zs (T + 1) ∧ Kept (fun b => b = p) w w' := by
  obtain ⟨t, h0, h1, hs⟩ := h
  refine (l1Pick_big p g c m vs zs t w hs hu h0 (by omega) hl hm0 hm1 hm hg hgl hc).mono ?_
  rintro e w' ⟨v, hv, rfl, s1, k1⟩
  exact ⟨v, hv, rfl, ⟨t + 1, by omega, by omega, s1⟩, k1⟩
theorem some_e (p : Nat) (n : Nat) (zs : List Int) (T : Int) (w : World) (h : SrcX w p zs T) (hu : U8 zs) (hT : T ≤ 1000000) (hl : zs.length ≤ 2097152) (hn : n ≤ 1000) :
    Calls Tryz.prog 67 #[.pointer (some ⟨p, 0, none⟩), .int .i64 n] w fun e w' => ∃ a c ds, e = .returned (.slice a n c) ∧ ds.length = n ∧ U8 ds ∧ w'.ownsRow w.heap.size 5 1 (.slice a n c) n (ds.map (Value.int .u8)) ∧ SrcX w' p zs (T + n) ∧ Kept (fun b => b = p) w w' := by
  have hp := h.lt
  obtain ⟨t, h0, h1, hs⟩ := h
  refine (l1Some_big p n zs t w hs hu h0 (by omega) hl (by omega) hp).mono ?_
  rintro e w' ⟨a, c, ds, rfl, hd, hu, ho, s1, k1⟩
  exact ⟨a, c, ds, rfl, hd, hu, ho, ⟨t + n, by omega, by omega, s1⟩, k1⟩
set_option maxHeartbeats 800000 in
theorem chance_e (p : Nat) (zs : List Int) (T n : Int) (w : World) (h : SrcX w p zs T) (hu : U8 zs) (hT : T ≤ 1000000) (hn0 : 1 ≤ n) (hn1 : n ≤ 1000) (hl : zs.length ≤ 2097152) :
    Calls Tryz.prog 70 #[.pointer (some ⟨p, 0, none⟩), .int .i64 n] w fun e w' => ∃ r : Bool, e = .returned (.bool r) ∧ SrcX w' p zs (T + 1) ∧ Kept (fun b => b = p) w w' := by
  have HS := hide h
  have HU := hide hu
  clear h hu
  go_enter Tryz.func70, Tryz.ntmps70
  go_wp2_with fail
  refine (next_e p zs T n _ HS.out HU.out hT hn0 hn1 hl).mono ?_
  rintro e w1 ⟨r, rfl, r1, s1, k1⟩
  have S1 := hide s1
  have K1 := hide k1
  clear s1 k1
  go_wp2_with fail
  go_ret
  exact ⟨_, rfl, S1.out, K1.out⟩

def TextsQ (Q : Bs → Prop) (w : World) (g n : Nat) : Prop := g < w.heap.size ∧ ∀ i, i < n → ∃ x : Bs, w.cell? ⟨g, i, none⟩ = some (.string (str x)) ∧ Q x
theorem TextsQ.new {Q : Bs → Prop} {w : World} {t : TypeId} {vs : List Bs} (h : ∀ x ∈ vs, Q x) : TextsQ Q (w.alloc (.cells (vs.map vS).toArray t)) w.heap.size vs.length := by
  refine ⟨by simp, fun i hi => ⟨vs[i], ?_, h _ (List.getElem_mem hi)⟩⟩
  rw [cell_of_row _ w.heap.size i (vs.map vS).toArray t (0, 0) (heap_alloc_new w _)]
  simp [hi, vS]
theorem TextsQ.kept {Q : Bs → Prop} {S : Nat → Prop} {w w' : World} {g n : Nat} (h : TextsQ Q w g n) (hk : Kept S w w') (hn : ¬ S g) : TextsQ Q w' g n :=
  ⟨Nat.lt_of_lt_of_le h.1 hk.size, fun i hi => by obtain ⟨x, hx, hl⟩ := h.2 i hi; exact ⟨x, (hk.cell (p := ⟨g, i, none⟩) h.1 hn).trans hx, hl⟩⟩

set_option maxRecDepth 100000 in
set_option maxHeartbeats 800000 in
theorem name_e (p : Nat) (zs : List Int) (T : Int) (w : World) (h : SrcX w p zs T) (hu : U8 zs) (hT : T ≤ 1000000) (hl : zs.length ≤ 2097152) :
    Calls Tryz.prog 117 #[.pointer (some ⟨p, 0, none⟩)] w fun e w' => ∃ x : Bs, e = .returned (.string (str x)) ∧ (plain x = true ∧ x.length ≤ 2) ∧ SrcX w' p zs (T + 1) ∧ Kept (fun b => b = p) w w' := by
  have hp := h.lt
  have T0 := hide (TextsQ.new (Q := fun x => plain x = true ∧ x.length ≤ 2) (w := w) (t := 9) (vs := [[97], [98], [99], [97, 98]]) (by decide))
  have HS := hide (h.below (below_alloc w (.cells ([[97], [98], [99], [97, 98]].map vS).toArray 9)))
  have HU := hide hu
  clear h hu
  go_enter Tryz.func117, Tryz.ntmps117
  go_wp2_with fail
  refine (next_e p zs T 4 _ HS.out HU.out hT (by decide) (by decide) hl).mono ?_
  rintro e w1 ⟨i, rfl, r1, s1, k1⟩
  have T1 := hide (T0.out.kept k1 (by omega))
  have S1 := hide s1
  have K1 := hide (((Kept.refl (fun b => b = p) w).alloc (.cells ([[97], [98], [99], [97, 98]].map vS).toArray 9)).trans k1)
  clear s1 k1 T0 HS
  obtain ⟨x, hx, hxl⟩ := T1.out.2 i (by simp; omega)
  have hb := T1.out.1
  have HX := hide hxl
  clear hxl
  go_wp2_with fail
  go_ret
  exact ⟨x, rfl, HX.out, S1.out, K1.out⟩

end Go.Proofs.YtebgfaohhhgdpaaGreat

namespace Go.Proofs.YtebgfaohhhgdpaaGreat
open Go.RowKit Go.Maps
set_option linter.unusedVariables false
attribute [local go_sem ↓] Go.wp_at_zero Go.wp_at_succ

set_option maxRecDepth 100000 in
set_option maxHeartbeats 1600000 in
theorem path_e (p : Nat) (zs : List Int) (T : Int) (w : World) (h : SrcX w p zs T) (hu : U8 zs) (hT : T ≤ 900000) (hl : zs.length ≤ 2097152) :
    Calls Tryz.prog 66 #[.pointer (some ⟨p, 0, none⟩)] w fun e w' => ∃ x : Bs, e = .returned (.string (str x)) ∧ faultP x = 0 ∧ x.length ≤ 9 ∧ SrcX w' p zs (T + 4) ∧ Kept (fun b => b = p) w w' := by
  obtain ⟨i1, ki, kz0, kz1, kz2⟩ := info_parts infoS
  have hp := h.lt
  have HS := hide ((h.below (below_alloc w (.cells #[] 9))).below (below_alloc _ (.cells #[.int .i64 1, .int .i64 1, .int .i64 2, .int .i64 2, .int .i64 3] 2)))
  have O0 := hide (OwnS.below (w' := (w.alloc (.cells #[] 9)).alloc (.cells #[.int .i64 1, .int .i64 1, .int .i64 2, .int .i64 2, .int .i64 3] 2)) (ps := []) (World.ownsRow_made (base := w.heap.size) (e := 9) (size := 1) w #[] 0 (Nat.le_refl _) (Nat.zero_le _) rfl) (below_alloc _ _))
  have HU := hide hu
  have K0 := hide (((Kept.refl (fun b => b = p) w).alloc (.cells #[] 9)).alloc (.cells #[.int .i64 1, .int .i64 1, .int .i64 2, .int .i64 2, .int .i64 3] 2))
  have C5 := hide (cells5' (w.alloc (.cells #[] 9)) 1 1 2 2 3 2)
  clear h hu
  go_enter Tryz.func66, Tryz.ntmps66
  go_wp2_with fail
  refine (pick_e p (w.heap.size + 1) 5 5 [1, 1, 2, 2, 3] zs T _ HS.out HU.out (by omega) hl (by decide) (by decide) rfl (by omega) (by simp) (by simpa using C5.out)).mono ?_
  rintro e w1 ⟨v, hv, rfl, s1, k1⟩
  have hv2 : 1 ≤ v ∧ v ≤ 3 := by simp at hv; omega
  obtain ⟨m0, rfl⟩ : ∃ m : Nat, v = m := ⟨v.toNat, by omega⟩
  have S1 := hide s1
  have O1 := hide (O0.out.kept k1 (fun b hb e => by have := (O0.out.lt b hb).1; omega))
  have K1 := hide (K0.out.trans k1)
  clear s1 k1 O0 K0 C5 HS hv
  go_wp2_with fail
  go_loopw [3, 4] (fun v k wr => ∃ (q : List Bs) (m : Nat), k = .int .i64 m ∧ q.length + m = m0 ∧ Hid (∀ n ∈ q, plain n = true ∧ n.length ≤ 2) ∧ Hid (OwnS w.heap.size wr v q) ∧ Hid (SrcX wr p zs (T + 1 + q.length)) ∧ Hid (Kept (fun b => b = p) w wr)) (fun _ k _ => (intOf k).toNat)
  case atStart => exact ⟨[], m0, rfl, by simp, hide (by simp), O1, hide (by simpa using S1.out), K1⟩
  case round =>
    obtain ⟨q, m, rfl, hqm, HN, HO, HSr, HK⟩ := hrel
    obtain ⟨va, vc, rfl⟩ := HO.out.shape
    by_cases hm : 0 < m
    · have hm' : (0 : Int) < (m : Int) := by omega
      have hm1 : q.length + 1 ≤ maxLen := by unfold maxLen; omega
      have hm2 : (q.length + 1) * 16 ≤ 140737488355328 := by omega
      go_wp2_with fail
      refine (name_e p zs _ _ HSr.out HU.out (by omega) hl).mono ?_
      rintro e w2 ⟨x, rfl, hxl, s2, k2⟩
      have S2 := hide s2
      have HX := hide hxl
      have O2 := hide (HO.out.kept k2 (fun b hb e => by have := (HO.out.lt b hb).1; omega))
      have K2 := hide (HK.out.trans k2)
      have hsz : w.heap.size ≤ w2.heap.size := K2.out.size
      clear s2 k2 hxl
      go_wp2_with (at_builtin; refine wpList_append_one rfl (.tmp 13) (.tmp 16) 83 rfl w.heap.size 9 i1 (.string ⟨#[]⟩) 1 16 Tryz.underlying83 ki kz0 kz1 kz2 rfl (by decide) _ _ _ rfl O2.out rfl rfl (by intro u hu; simp at hu; subst hu; rfl) hm1 hm2 hsz ?_; intro v' w3 hown3 hkept; have O3 := hide (OwnS.snoc hown3 rfl); have K3 := hide hkept; clear hown3 hkept)
      go_roundw
      case rel => exact ⟨q ++ [x], m - 1, by go_num, by simp; omega, hide (fun n hn => by rcases List.mem_append.1 hn with h | h; exact HN.out n h; simp at h; rw [h]; exact HX.out), O3, hide ((S2.out.kept K3.out (fun b hb e => by have := (O2.out.lt b e).1; omega)).mono (by simp; omega)), hide (K2.out.trans_own K3.out (fun b hb e => by have := (O2.out.lt b e).1; omega))⟩
      case measure => simp [intOf]; omega
    · have hm' : ¬ (0 : Int) < (m : Int) := by omega
      have hjl := join_small q (fun n hn => (HN.out n hn).2)
      have HFP := hide (show faultP (joinB q) = 0 from faultP_of ⟨by intro e; rw [e] at hqm; simp at hqm; omega, fun n hn => (HN.out n hn).1, fun n hn => by have := (HN.out n hn).2; omega, by omega⟩)
      go_wp2_with fail
      refine (l3Join_any _ _ q _ HO.out.reads (by omega) (by omega) _ rfl).mono ?_
      rintro e w2 ⟨rfl, rfl⟩
      go_wp2_with fail
      go_ret
      exact ⟨joinB q, rfl, HFP.out, by omega, HSr.out.mono (by omega), HK.out⟩

set_option maxRecDepth 100000 in
set_option maxHeartbeats 1600000 in
theorem bent_e (p : Nat) (zs : List Int) (T : Int) (w : World) (h : SrcX w p zs T) (hu : U8 zs) (hT : T ≤ 800000) (hl : zs.length ≤ 2097152) :
    Calls Tryz.prog 68 #[.pointer (some ⟨p, 0, none⟩)] w fun e w' => ∃ x : Bs, e = .returned (.string (str x)) ∧ x.length ≤ 9 ∧ SrcX w' p zs (T + 5) ∧ Kept (fun b => b = p) w w' := by
  have hp := h.lt
  have HS := hide h
  have HU := hide hu
  clear h hu
  go_enter Tryz.func68, Tryz.ntmps68
  go_wp2_with fail
  refine (chance_e p zs T 5 _ HS.out HU.out (by omega) (by decide) (by decide) hl).mono ?_
  rintro e w1 ⟨r, rfl, s1, k1⟩
  have S1 := hide s1
  have K1 := hide k1
  have hp1 := s1.lt
  clear s1 k1 HS
  cases r
  · go_wp2_with fail
    refine (path_e p zs _ _ S1.out HU.out (by omega) hl).mono ?_
    rintro e w2 ⟨x, rfl, -, hxl, s2, k2⟩
    have S2 := hide s2
    have K2 := hide (K1.out.trans k2)
    clear k2 s2
    go_wp2_with fail
    go_ret
    exact ⟨x, rfl, hxl, S2.out.mono (by omega), K2.out⟩
  · have T0 := hide (TextsQ.new (Q := fun x => x.length ≤ 9) (w := w1) (t := 9) (vs := [[], [97], [47, 97, 47], [47, 47], [47, 65], [47, 97, 98, 99, 100, 101], [47, 97, 47, 98, 47, 99, 47, 100], [47], [47, 97, 32, 98]]) (by decide))
    have S2 := hide (S1.out.below (below_alloc w1 (.cells ([[], [97], [47, 97, 47], [47, 47], [47, 65], [47, 97, 98, 99, 100, 101], [47, 97, 47, 98, 47, 99, 47, 100], [47], [47, 97, 32, 98]].map vS).toArray 9)))
    go_wp2_with fail
    refine (next_e p zs _ 9 _ S2.out HU.out (by omega) (by decide) (by decide) hl).mono ?_
    rintro e w2 ⟨i, rfl, r1, s2, k2⟩
    have T1 := hide (T0.out.kept k2 (by omega))
    have K2 := hide ((K1.out.alloc (.cells ([[], [97], [47, 97, 47], [47, 47], [47, 65], [47, 97, 98, 99, 100, 101], [47, 97, 47, 98, 47, 99, 47, 100], [47], [47, 97, 32, 98]].map vS).toArray 9)).trans k2)
    have S3 := hide s2
    clear s2 k2 T0 S2
    obtain ⟨x, hx, hxl⟩ := T1.out.2 i (by simp; omega)
    have hb := T1.out.1
    go_wp2_with fail
    go_ret
    exact ⟨x, rfl, hxl, S3.out.mono (by omega), K2.out⟩

theorem bare_right {p : Bs} {k : Int} (hp : faultP p = 0) (hk : 2 ≤ k ∧ k ≤ 4) : entFault ⟨p, k, 0, []⟩ = 0 := by
  rw [entFault_digs (e := ⟨p, k, 0, []⟩) hp (decide_eq_true ⟨⟨by show (1 : Int) ≤ k; omega, by show k ≤ 4; omega⟩, .inr ⟨rfl, rfl⟩⟩) (decide_eq_true (show (0 : Int) ≤ 0 ∧ (0 : Int) ≤ 24 by decide)) (decide_eq_true (show ((0 : Nat) : Int) = ((0 : Int) + 7) / 8 by decide))]
  rfl
theorem file_right {p : Bs} {zs : List Int} (hp : faultP p = 0) (hl : zs.length ≤ 24) : entFault (fileE p zs) = 0 := by
  have h1 : formE (fileE p zs) = true := decide_eq_true ⟨by simp [fileE], .inl rfl⟩
  have h2 : sizeE (fileE p zs) = true := decide_eq_true (by simp [fileE]; omega)
  have h3 : manyE (fileE p zs) = true := decide_eq_true (by show ((digs zs (cut zs).length).length : Int) = ((zs.length : Int) + 7) / 8; rw [digs_len, cut_length]; omega)
  rw [entFault_digs hp h1 h2 h3, if_pos]
  rw [List.all_eq_true]
  intro z hz
  simp only [fileE, digs, List.mem_map] at hz
  obtain ⟨i, _, rfl⟩ := hz
  exact decide_eq_true (digest_range _)
def DrawnE (w : World) (p : Nat) (zs : List Int) (T : Int) (Q : En → Prop) (r : Ending) (w' : World) : Prop :=
  ∃ (e : En) (a : Option Addr) (c : Nat), r = .returned (.agg #[.string (str e.path), .int .i64 e.kind, .int .i64 e.size, .slice a e.chunks.length c]) ∧ Q e ∧ w'.ownsRow w.heap.size 2 1 (.slice a e.chunks.length c) e.chunks.length (e.chunks.map (Value.int .i64)) ∧ SrcX w' p zs T ∧ Kept (fun b => b = p) w w'

end Go.Proofs.YtebgfaohhhgdpaaGreat

namespace Go.Proofs.YtebgfaohhhgdpaaGreat
open Go.RowKit Go.Maps
set_option linter.unusedVariables false
attribute [local go_sem ↓] Go.wp_at_zero Go.wp_at_succ

theorem Box4.kept {S : Nat → Prop} {w w' : World} {b : Nat} {u0 u1 u2 u3 : Value} (h : Box4 w b u0 u1 u2 u3) (hk : Kept S w w') (hn : ¬ S b) : Box4 w' b u0 u1 u2 u3 :=
  ⟨⟨(hk.cell (p := ⟨b, 0, none⟩) h.1.lt hn).trans h.1.1, (hk.cell (p := ⟨b, 1, none⟩) h.1.lt hn).trans h.1.2.1, (hk.cell (p := ⟨b, 2, none⟩) h.1.lt hn).trans h.1.2.2.1, (hk.cell (p := ⟨b, 3, none⟩) h.1.lt hn).trans h.1.2.2.2⟩, fun i => (hk.frozen (p := ⟨b, i, none⟩) h.1.lt hn).trans (h.2 i)⟩
set_option maxRecDepth 100000 in
set_option maxHeartbeats 3200000 in
theorem drawEntry_e (p : Nat) (zs : List Int) (T : Int) (w : World) (h : SrcX w p zs T) (hu : U8 zs) (hT : T ≤ 700000) (hl : zs.length ≤ 2097152) :
    Calls Tryz.prog 114 #[.pointer (some ⟨p, 0, none⟩)] w (DrawnE w p zs (T + 30) (fun e => entFault e = 0 ∧ e.path.length ≤ 9)) := by
  have hp := h.lt
  have X0 := hide (Box4.new w (.string ⟨#[]⟩) (.int .i64 0) (.int .i64 0) (.slice none 0 0) 53)
  have S0 := hide (h.below (below_alloc w (.cells #[.string ⟨#[]⟩, .int .i64 0, .int .i64 0, .slice none 0 0] 53)))
  have K0 := hide ((Kept.refl (fun b => b = p) w).alloc (.cells #[.string ⟨#[]⟩, .int .i64 0, .int .i64 0, .slice none 0 0] 53))
  have HU := hide hu
  clear h hu
  go_enter Tryz.func114, Tryz.ntmps114
  go_wp2_with fail
  refine (path_e p zs T _ S0.out HU.out (by omega) hl).mono ?_
  rintro r w1 ⟨x, rfl, hf, hxl, s1, k1⟩
  have S1 := hide s1
  have K1 := hide (K0.out.trans k1)
  have X1 := hide (X0.out.kept k1 (by omega))
  have HF := hide hf
  clear s1 k1 hf X0 S0 K0
  go_wp2_with fail
  refine (next_e p zs _ 7 _ S1.out HU.out (by omega) (by decide) (by decide) hl).mono ?_
  rintro r w2 ⟨i, rfl, hi, s2, k2⟩
  have S2 := hide s2
  have K2 := hide (K1.out.trans k2)
  have X2 := hide (X1.out.kept k2 (by omega))
  have hw2 : w.heap.size < w2.heap.size := X2.out.1.lt
  clear s2 k2 S1 K1 X1
  by_cases h0 : i = 0
  · subst h0
    · obtain ⟨⟨q0, q1, q2, q3⟩, qf⟩ := X2.out
      have qf0 := qf 0
      have qf1 := qf 1
      have qf2 := qf 2
      have qf3 := qf 3
      go_wp2_with fail
      have hk : Kept (fun b => b = w.heap.size) w2 ((((w2.setCell ⟨w.heap.size, 0, none⟩ (.string (str x))).setCell ⟨w.heap.size, 1, none⟩ (.int .i64 3)).setCell ⟨w.heap.size, 2, none⟩ (.int .i64 0)).setCell ⟨w.heap.size, 3, none⟩ (.slice none 0 0)) := Kept.setCell (S := fun b => b = w.heap.size) (p := ⟨w.heap.size, 3, none⟩) (Kept.setCell (S := fun b => b = w.heap.size) (p := ⟨w.heap.size, 2, none⟩) (Kept.two _ _ _ _ _ _) (fun _ => rfl) _) (fun _ => rfl) _
      exact bodyPost_ret (v := .agg #[.string (str x), .int .i64 3, .int .i64 0, .slice none 0 0]) (by simp [results, Tryz.results114, go_sem, q0, q1, q2, q3]) rfl ⟨⟨x, 3, 0, []⟩, none, 0, rfl, ⟨bare_right HF.out (by decide), hxl⟩, World.ownsRow_nil _ _ _ _, (S2.out.kept hk (fun b hb e => by omega)).mono (by omega), K2.out.trans_own hk (fun b hb e => by omega)⟩
  · by_cases h1 : i = 1
    · subst h1
      obtain ⟨⟨q0, q1, q2, q3⟩, qf⟩ := X2.out
      have qf0 := qf 0
      have qf1 := qf 1
      have qf2 := qf 2
      have qf3 := qf 3
      go_wp2_with fail
      have hk : Kept (fun b => b = w.heap.size) w2 ((((w2.setCell ⟨w.heap.size, 0, none⟩ (.string (str x))).setCell ⟨w.heap.size, 1, none⟩ (.int .i64 4)).setCell ⟨w.heap.size, 2, none⟩ (.int .i64 0)).setCell ⟨w.heap.size, 3, none⟩ (.slice none 0 0)) := Kept.setCell (S := fun b => b = w.heap.size) (p := ⟨w.heap.size, 3, none⟩) (Kept.setCell (S := fun b => b = w.heap.size) (p := ⟨w.heap.size, 2, none⟩) (Kept.two _ _ _ _ _ _) (fun _ => rfl) _) (fun _ => rfl) _
      exact bodyPost_ret (v := .agg #[.string (str x), .int .i64 4, .int .i64 0, .slice none 0 0]) (by simp [results, Tryz.results114, go_sem, q0, q1, q2, q3]) rfl ⟨⟨x, 4, 0, []⟩, none, 0, rfl, ⟨bare_right HF.out (by decide), hxl⟩, World.ownsRow_nil _ _ _ _, (S2.out.kept hk (fun b hb e => by omega)).mono (by omega), K2.out.trans_own hk (fun b hb e => by omega)⟩
    · by_cases h2 : i = 2 ∨ i = 3
      · rcases h2 with rfl | rfl
        · obtain ⟨⟨q0, q1, q2, q3⟩, qf⟩ := X2.out
          have qf0 := qf 0
          have qf1 := qf 1
          have qf2 := qf 2
          have qf3 := qf 3
          go_wp2_with fail
          have hk : Kept (fun b => b = w.heap.size) w2 ((((w2.setCell ⟨w.heap.size, 0, none⟩ (.string (str x))).setCell ⟨w.heap.size, 1, none⟩ (.int .i64 2)).setCell ⟨w.heap.size, 2, none⟩ (.int .i64 0)).setCell ⟨w.heap.size, 3, none⟩ (.slice none 0 0)) := Kept.setCell (S := fun b => b = w.heap.size) (p := ⟨w.heap.size, 3, none⟩) (Kept.setCell (S := fun b => b = w.heap.size) (p := ⟨w.heap.size, 2, none⟩) (Kept.two _ _ _ _ _ _) (fun _ => rfl) _) (fun _ => rfl) _
          exact bodyPost_ret (v := .agg #[.string (str x), .int .i64 2, .int .i64 0, .slice none 0 0]) (by simp [results, Tryz.results114, go_sem, q0, q1, q2, q3]) rfl ⟨⟨x, 2, 0, []⟩, none, 0, rfl, ⟨bare_right HF.out (by decide), hxl⟩, World.ownsRow_nil _ _ _ _, (S2.out.kept hk (fun b hb e => by omega)).mono (by omega), K2.out.trans_own hk (fun b hb e => by omega)⟩
        · obtain ⟨⟨q0, q1, q2, q3⟩, qf⟩ := X2.out
          have qf0 := qf 0
          have qf1 := qf 1
          have qf2 := qf 2
          have qf3 := qf 3
          go_wp2_with fail
          have hk : Kept (fun b => b = w.heap.size) w2 ((((w2.setCell ⟨w.heap.size, 0, none⟩ (.string (str x))).setCell ⟨w.heap.size, 1, none⟩ (.int .i64 2)).setCell ⟨w.heap.size, 2, none⟩ (.int .i64 0)).setCell ⟨w.heap.size, 3, none⟩ (.slice none 0 0)) := Kept.setCell (S := fun b => b = w.heap.size) (p := ⟨w.heap.size, 3, none⟩) (Kept.setCell (S := fun b => b = w.heap.size) (p := ⟨w.heap.size, 2, none⟩) (Kept.two _ _ _ _ _ _) (fun _ => rfl) _) (fun _ => rfl) _
          exact bodyPost_ret (v := .agg #[.string (str x), .int .i64 2, .int .i64 0, .slice none 0 0]) (by simp [results, Tryz.results114, go_sem, q0, q1, q2, q3]) rfl ⟨⟨x, 2, 0, []⟩, none, 0, rfl, ⟨bare_right HF.out (by decide), hxl⟩, World.ownsRow_nil _ _ _ _, (S2.out.kept hk (fun b hb e => by omega)).mono (by omega), K2.out.trans_own hk (fun b hb e => by omega)⟩
      · have e0 : ((i : Int) == 0) = false := by simp; omega
        have e1 : ((i : Int) == 1) = false := by simp; omega
        have e2 : ((i : Int) == 2) = false := by simp; omega
        have e3 : ((i : Int) == 3) = false := by simp; omega
        clear h0 h1 h2
        go_wp2_with fail
        refine (next_e p zs _ 14 _ S2.out HU.out (by omega) (by decide) (by decide) hl).mono ?_
        rintro r w3 ⟨j, rfl, hj, s3, k3⟩
        have S3 := hide s3
        have K3 := hide (K2.out.trans k3)
        have X3 := hide (X2.out.kept k3 (by omega))
        clear s3 k3 S2 K2 X2
        go_wp2_with fail
        refine (some_e p j zs _ _ S3.out HU.out (by omega) hl (by omega)).mono ?_
        rintro r w4 ⟨da, dc, ds, rfl, hdl, hdu, ho4, s4, k4⟩
        subst hdl
        have RD := hide (ownInts_reads ho4 rfl)
        have hcap := ownsRow_cap ho4
        have S4 := hide s4
        have K4 := hide (K3.out.trans k4)
        have X4 := hide (X3.out.kept k4 (by omega))
        have DU := hide hdu
        clear s4 k4 S3 K3 X3 ho4 hdu
        go_wp2_with fail
        refine (l4File_any x da dc ds _ RD.out DU.out hcap (by omega)).mono ?_
        rintro r w5 ⟨av, cv, rfl, ho5, hb5⟩
        have hls := digs_len ds
        have S5 := hide (S4.out.below hb5)
        have K5 := hide (K4.out.trans (Kept.of_below hb5))
        obtain ⟨⟨q0, q1, q2, q3⟩, qf⟩ := X4.out.below hb5
        have qf0 := qf 0
        have qf1 := qf 1
        have qf2 := qf 2
        have qf3 := qf 3
        have O5 := hide ho5
        have hw4 : w.heap.size < w4.heap.size := X4.out.1.lt
        clear ho5 hb5 S4 K4 X4 qf
        go_wp2_with fail
        have hk : Kept (fun b => b = w.heap.size) w5 ((((w5.setCell ⟨w.heap.size, 0, none⟩ (.string (str x))).setCell ⟨w.heap.size, 1, none⟩ (.int .i64 1)).setCell ⟨w.heap.size, 2, none⟩ (.int .i64 ds.length)).setCell ⟨w.heap.size, 3, none⟩ (.slice av (cut ds).length cv)) := Kept.setCell (S := fun b => b = w.heap.size) (p := ⟨w.heap.size, 3, none⟩) (Kept.setCell (S := fun b => b = w.heap.size) (p := ⟨w.heap.size, 2, none⟩) (Kept.two _ _ _ _ _ _) (fun _ => rfl) _) (fun _ => rfl) _
        refine bodyPost_ret (v := .agg #[.string (str x), .int .i64 1, .int .i64 ds.length, .slice av (cut ds).length cv]) (by simp [results, Tryz.results114, go_sem, q0, q1, q2, q3]) rfl ⟨fileE x ds, av, cv, by rw [show (fileE x ds).chunks.length = (cut ds).length from hls]; rfl, ⟨file_right HF.out (by omega), hxl⟩, ?_, (S5.out.kept hk (fun b hb e => by omega)).mono (by omega), K5.out.trans_own hk (fun b hb e => by omega)⟩
        rw [show (fileE x ds).chunks.length = (cut ds).length from hls]
        exact ownsRow_mono (ownsRow_kept O5.out hk (fun b hb hS => by have := (O5.out.lt b hb).1; omega)) (by omega)

end Go.Proofs.YtebgfaohhhgdpaaGreat

namespace Go.Proofs.YtebgfaohhhgdpaaGreat
open Go.RowKit Go.Maps
set_option linter.unusedVariables false
attribute [local go_sem ↓] Go.wp_at_zero Go.wp_at_succ

theorem cells3e (w : World) (a b c : Int) (t : TypeId) : ∀ i, i < 3 → (w.alloc (.cells #[.int .i64 a, .int .i64 b, .int .i64 c] t)).cell? ⟨w.heap.size, i, none⟩ = some (.int .i64 ([a, b, c].getD i 0)) := by
  intro i hi
  match i, hi with
  | 0, _ | 1, _ | 2, _ => simp
theorem cells2e (w : World) (a b : Int) (t : TypeId) : ∀ i, i < 2 → (w.alloc (.cells #[.int .i64 a, .int .i64 b] t)).cell? ⟨w.heap.size, i, none⟩ = some (.int .i64 ([a, b].getD i 0)) := by
  intro i hi
  match i, hi with
  | 0, _ | 1, _ => simp
theorem news_one {w : World} {H : Nat} {u : Value} {t : TypeId} (hH : w.heap.size = H) : ∀ j x, [u][j]? = some x → (w.alloc (.cells #[u] t)).cell? ((⟨H, 0, none⟩ : Addr).add j) = some x := by
  subst hH
  intro j x hj
  rw [add_addr, Nat.zero_add, cell_of_row _ w.heap.size j #[u] t (0, 0) (heap_alloc_new w _)]
  simpa using hj
set_option maxRecDepth 100000 in
set_option maxHeartbeats 6400000 in
theorem bentEntry_e (p : Nat) (zs : List Int) (T : Int) (w : World) (h : SrcX w p zs T) (hu : U8 zs) (hT : T ≤ 600000) (hl : zs.length ≤ 2097152) :
    Calls Tryz.prog 121 #[.pointer (some ⟨p, 0, none⟩)] w (DrawnE w p zs (T + 40) (fun e => e.path.length ≤ 9 ∧ e.chunks.length ≤ 4)) := by
  obtain ⟨i0, hi0, hz0, hz1, hz2⟩ := info_parts Tryz.infoI64
  have hp := h.lt
  have X0 := hide (Box4.new w (.string ⟨#[]⟩) (.int .i64 0) (.int .i64 0) (.slice none 0 0) 53)
  have S0 := hide (h.below (below_alloc w (.cells #[.string ⟨#[]⟩, .int .i64 0, .int .i64 0, .slice none 0 0] 53)))
  have K0 := hide ((Kept.refl (fun b => b = p) w).alloc (.cells #[.string ⟨#[]⟩, .int .i64 0, .int .i64 0, .slice none 0 0] 53))
  have HU := hide hu
  have hsw : (w.alloc (.cells #[.string ⟨#[]⟩, .int .i64 0, .int .i64 0, .slice none 0 0] 53)).heap.size = w.heap.size + 1 := by simp
  clear h hu
  go_enter Tryz.func121, Tryz.ntmps121
  go_wp2_with fail
  refine (drawEntry_e p zs T _ S0.out HU.out (by omega) hl).mono ?_
  rintro r w1 ⟨e, a, c, rfl, ⟨hef, hxl⟩, ho1, s1, k1⟩
  rw [hsw] at ho1
  have hc5 : e.chunks.length ≤ 3 := entFault_chunks hef
  have hc3 : e.chunks.length ≤ 4 := by omega
  have hw1 : w.heap.size < w1.heap.size := by have := k1.size; omega
  have AE := hide (below_alloc w1 (.cells #[.string (str e.path), .int .i64 e.kind, .int .i64 e.size, .slice a e.chunks.length c] 53))
  have S1 := hide (s1.below AE.out)
  have K1 := hide ((K0.out.trans k1).alloc (.cells #[.string (str e.path), .int .i64 e.kind, .int .i64 e.size, .slice a e.chunks.length c] 53))
  have X1 := hide ((X0.out.kept k1 (by omega)).below AE.out)
  have E1 := hide (Box4.new w1 (.string (str e.path)) (.int .i64 e.kind) (.int .i64 e.size) (.slice a e.chunks.length c) 53)
  have O1 := hide (ownsRow_below ho1 AE.out)
  have OL := hide (fun b hb => ho1.lt b hb)
  clear s1 k1 hef X0 S0 K0 ho1 hsw AE
  go_wp2_with fail
  generalize w1.alloc (.cells #[.string (str e.path), .int .i64 e.kind, .int .i64 e.size, .slice a e.chunks.length c] 53) = W1 at *
  obtain ⟨b1, hb1⟩ : ∃ b1, b1 = w1.heap.size := ⟨_, rfl⟩
  rw [← hb1] at E1 OL hw1 ⊢
  clear hb1
  refine (next_e p zs _ 12 _ S1.out HU.out (by omega) (by decide) (by decide) hl).mono ?_
  rintro r w2 ⟨i, rfl, hi, s2, k2⟩
  have S2 := hide s2
  have K2 := hide (K1.out.trans k2)
  have E2 := hide (E1.out.kept k2 (by omega))
  have X2 := hide (X1.out.kept k2 (by omega))
  have O2 := hide (ownsRow_kept O1.out k2 (fun b hb e => by have := O1.out.lt b hb; omega))
  clear s2 k2 S1 K1 X1 O1 E1
  by_cases h0 : i = 0
  · subst h0
    · go_wp2_with fail
      refine (bent_e p zs _ _ S2.out HU.out (by omega) hl).mono ?_
      rintro r w3 ⟨y, rfl, hyl, s3, k3⟩
      have K2' := K2
      have E2' := E2
      have X2' := X2
      have O2' := O2
      have S3 := hide s3
      have K3 := hide (K2'.out.trans k3)
      have E3 := hide (E2'.out.kept k3 (by omega))
      have X3 := hide (X2'.out.kept k3 (by omega))
      have O3 := hide (ownsRow_kept O2'.out k3 (fun b hb e => by have := O2'.out.lt b hb; omega))
      clear s3 k3
      obtain ⟨⟨p0, p1, p2, p3⟩, pf⟩ := E3.out
      obtain ⟨⟨q0, q1, q2, q3⟩, qf⟩ := X3.out
      have pf0 := pf 0
      have pf1 := pf 1
      have pf2 := pf 2
      have pf3 := pf 3
      have qf0 := qf 0
      have qf1 := qf 1
      have qf2 := qf 2
      have qf3 := qf 3
      have hlt3 : b1 < w3.heap.size := World.block_lt_of_cell? _ _ p0
      clear pf qf
      go_wp2_with fail
      have hk : Kept (fun b => b = b1 ∨ b = w.heap.size) w3 (((((w3.setCell ⟨b1, 0, none⟩ (.string (str y))).setCell ⟨w.heap.size, 0, none⟩ (.string (str y))).setCell ⟨w.heap.size, 1, none⟩ (.int .i64 e.kind)).setCell ⟨w.heap.size, 2, none⟩ (.int .i64 e.size)).setCell ⟨w.heap.size, 3, none⟩ (.slice a e.chunks.length c)) := Kept.setCell (S := fun b => b = b1 ∨ b = w.heap.size) (p := ⟨w.heap.size, 3, none⟩) (Kept.setCell (S := fun b => b = b1 ∨ b = w.heap.size) (p := ⟨w.heap.size, 2, none⟩) (Kept.setCell (S := fun b => b = b1 ∨ b = w.heap.size) (p := ⟨w.heap.size, 1, none⟩) (Kept.setCell (S := fun b => b = b1 ∨ b = w.heap.size) (p := ⟨w.heap.size, 0, none⟩) (Kept.setCell (S := fun b => b = b1 ∨ b = w.heap.size) (p := ⟨b1, 0, none⟩) (Kept.refl _ _) (fun _ => .inl rfl) _) (fun _ => .inr rfl) _) (fun _ => .inr rfl) _) (fun _ => .inr rfl) _) (fun _ => .inr rfl) _
      refine bodyPost_ret (v := .agg #[(.string (str y)), (.int .i64 e.kind), (.int .i64 e.size), (.slice a e.chunks.length c)]) (by simp [results, Tryz.results121, go_sem, q0, q1, q2, q3]) rfl ⟨⟨y, e.kind, e.size, e.chunks⟩, a, c, rfl, ⟨by first | exact hyl | exact hxl, by first | exact hc3 | exact hc4⟩, ?_, (S3.out.kept hk (fun b hb e => by omega)).mono (by omega), K3.out.trans_own hk (fun b hb e => by omega)⟩
      exact ownsRow_mono (ownsRow_kept O3.out hk (fun b hb hS => by have := OL.out b hb; omega)) (by omega)
  · by_cases h1 : i = 1
    · subst h1
      have K2' := hide (K2.out.alloc (.cells #[.int .i64 0, .int .i64 5, .int .i64 1] 2))
      have E2' := hide (E2.out.below (below_alloc w2 (.cells #[.int .i64 0, .int .i64 5, .int .i64 1] 2)))
      have X2' := hide (X2.out.below (below_alloc w2 (.cells #[.int .i64 0, .int .i64 5, .int .i64 1] 2)))
      have O2' := hide (ownsRow_below O2.out (below_alloc w2 (.cells #[.int .i64 0, .int .i64 5, .int .i64 1] 2)))
      have S2' := hide (S2.out.below (below_alloc w2 (.cells #[.int .i64 0, .int .i64 5, .int .i64 1] 2)))
      have CC := hide (cells3e w2 (0) (5) (1) 2)
      have hw2l : b1 < w2.heap.size := E2.out.1.lt
      go_wp2_with fail
      refine (pick_e p w2.heap.size 3 3 [0, 5, 1] zs _ _ S2'.out HU.out (by omega) hl (by decide) (by decide) rfl (by omega) (by simp) CC.out).mono ?_
      rintro r w3 ⟨v, hv, rfl, s3, k3⟩
      have S3 := hide s3
      have K3 := hide (K2'.out.trans k3)
      have E3 := hide (E2'.out.kept k3 (by omega))
      have X3 := hide (X2'.out.kept k3 (by omega))
      have O3 := hide (ownsRow_kept O2'.out k3 (fun b hb e => by have := O2'.out.lt b hb; omega))
      clear s3 k3
      obtain ⟨⟨p0, p1, p2, p3⟩, pf⟩ := E3.out
      obtain ⟨⟨q0, q1, q2, q3⟩, qf⟩ := X3.out
      have pf0 := pf 0
      have pf1 := pf 1
      have pf2 := pf 2
      have pf3 := pf 3
      have qf0 := qf 0
      have qf1 := qf 1
      have qf2 := qf 2
      have qf3 := qf 3
      have hlt3 : b1 < w3.heap.size := World.block_lt_of_cell? _ _ p0
      clear pf qf
      go_wp2_with fail
      have hk : Kept (fun b => b = b1 ∨ b = w.heap.size) w3 (((((w3.setCell ⟨b1, 1, none⟩ (.int .i64 v)).setCell ⟨w.heap.size, 0, none⟩ (.string (str e.path))).setCell ⟨w.heap.size, 1, none⟩ (.int .i64 v)).setCell ⟨w.heap.size, 2, none⟩ (.int .i64 e.size)).setCell ⟨w.heap.size, 3, none⟩ (.slice a e.chunks.length c)) := Kept.setCell (S := fun b => b = b1 ∨ b = w.heap.size) (p := ⟨w.heap.size, 3, none⟩) (Kept.setCell (S := fun b => b = b1 ∨ b = w.heap.size) (p := ⟨w.heap.size, 2, none⟩) (Kept.setCell (S := fun b => b = b1 ∨ b = w.heap.size) (p := ⟨w.heap.size, 1, none⟩) (Kept.setCell (S := fun b => b = b1 ∨ b = w.heap.size) (p := ⟨w.heap.size, 0, none⟩) (Kept.setCell (S := fun b => b = b1 ∨ b = w.heap.size) (p := ⟨b1, 1, none⟩) (Kept.refl _ _) (fun _ => .inl rfl) _) (fun _ => .inr rfl) _) (fun _ => .inr rfl) _) (fun _ => .inr rfl) _) (fun _ => .inr rfl) _
      refine bodyPost_ret (v := .agg #[(.string (str e.path)), (.int .i64 v), (.int .i64 e.size), (.slice a e.chunks.length c)]) (by simp [results, Tryz.results121, go_sem, q0, q1, q2, q3]) rfl ⟨⟨e.path, v, e.size, e.chunks⟩, a, c, rfl, ⟨by first | exact hyl | exact hxl, by first | exact hc3 | exact hc4⟩, ?_, (S3.out.kept hk (fun b hb e => by omega)).mono (by omega), K3.out.trans_own hk (fun b hb e => by omega)⟩
      exact ownsRow_mono (ownsRow_kept O3.out hk (fun b hb hS => by have := OL.out b hb; omega)) (by omega)
    · by_cases h2 : i = 2
      · subst h2
        have K2' := hide (K2.out.alloc (.cells #[.int .i64 (-1), .int .i64 25, .int .i64 9] 2))
        have E2' := hide (E2.out.below (below_alloc w2 (.cells #[.int .i64 (-1), .int .i64 25, .int .i64 9] 2)))
        have X2' := hide (X2.out.below (below_alloc w2 (.cells #[.int .i64 (-1), .int .i64 25, .int .i64 9] 2)))
        have O2' := hide (ownsRow_below O2.out (below_alloc w2 (.cells #[.int .i64 (-1), .int .i64 25, .int .i64 9] 2)))
        have S2' := hide (S2.out.below (below_alloc w2 (.cells #[.int .i64 (-1), .int .i64 25, .int .i64 9] 2)))
        have CC := hide (cells3e w2 (-1) (25) (9) 2)
        have hw2l : b1 < w2.heap.size := E2.out.1.lt
        go_wp2_with fail
        refine (pick_e p w2.heap.size 3 3 [-1, 25, 9] zs _ _ S2'.out HU.out (by omega) hl (by decide) (by decide) rfl (by omega) (by simp) CC.out).mono ?_
        rintro r w3 ⟨v, hv, rfl, s3, k3⟩
        have S3 := hide s3
        have K3 := hide (K2'.out.trans k3)
        have E3 := hide (E2'.out.kept k3 (by omega))
        have X3 := hide (X2'.out.kept k3 (by omega))
        have O3 := hide (ownsRow_kept O2'.out k3 (fun b hb e => by have := O2'.out.lt b hb; omega))
        clear s3 k3
        obtain ⟨⟨p0, p1, p2, p3⟩, pf⟩ := E3.out
        obtain ⟨⟨q0, q1, q2, q3⟩, qf⟩ := X3.out
        have pf0 := pf 0
        have pf1 := pf 1
        have pf2 := pf 2
        have pf3 := pf 3
        have qf0 := qf 0
        have qf1 := qf 1
        have qf2 := qf 2
        have qf3 := qf 3
        have hlt3 : b1 < w3.heap.size := World.block_lt_of_cell? _ _ p0
        clear pf qf
        go_wp2_with fail
        have hk : Kept (fun b => b = b1 ∨ b = w.heap.size) w3 (((((w3.setCell ⟨b1, 2, none⟩ (.int .i64 v)).setCell ⟨w.heap.size, 0, none⟩ (.string (str e.path))).setCell ⟨w.heap.size, 1, none⟩ (.int .i64 e.kind)).setCell ⟨w.heap.size, 2, none⟩ (.int .i64 v)).setCell ⟨w.heap.size, 3, none⟩ (.slice a e.chunks.length c)) := Kept.setCell (S := fun b => b = b1 ∨ b = w.heap.size) (p := ⟨w.heap.size, 3, none⟩) (Kept.setCell (S := fun b => b = b1 ∨ b = w.heap.size) (p := ⟨w.heap.size, 2, none⟩) (Kept.setCell (S := fun b => b = b1 ∨ b = w.heap.size) (p := ⟨w.heap.size, 1, none⟩) (Kept.setCell (S := fun b => b = b1 ∨ b = w.heap.size) (p := ⟨w.heap.size, 0, none⟩) (Kept.setCell (S := fun b => b = b1 ∨ b = w.heap.size) (p := ⟨b1, 2, none⟩) (Kept.refl _ _) (fun _ => .inl rfl) _) (fun _ => .inr rfl) _) (fun _ => .inr rfl) _) (fun _ => .inr rfl) _) (fun _ => .inr rfl) _
        refine bodyPost_ret (v := .agg #[(.string (str e.path)), (.int .i64 e.kind), (.int .i64 v), (.slice a e.chunks.length c)]) (by simp [results, Tryz.results121, go_sem, q0, q1, q2, q3]) rfl ⟨⟨e.path, e.kind, v, e.chunks⟩, a, c, rfl, ⟨by first | exact hyl | exact hxl, by first | exact hc3 | exact hc4⟩, ?_, (S3.out.kept hk (fun b hb e => by omega)).mono (by omega), K3.out.trans_own hk (fun b hb e => by omega)⟩
        exact ownsRow_mono (ownsRow_kept O3.out hk (fun b hb hS => by have := OL.out b hb; omega)) (by omega)
      · by_cases h3 : i = 3
        · subst h3
          have BD := hide ((below_alloc w2 (.cells #[.int .i64 (-1), .int .i64 5] 2)).drew)
          have K2' := (K2.out.alloc (.cells #[.int .i64 (-1), .int .i64 5] 2)).drew
          have E2' := hide (E2.out.below BD.out)
          have X2' := hide (X2.out.below BD.out)
          have O2' := hide (ownsRow_below O2.out BD.out)
          have S2' := hide (S2.out.below BD.out)
          have CC : Hid (∀ i, i < 2 → (w2.alloc (.cells #[.int .i64 (-1), .int .i64 5] 2)).drew.cell? ⟨w2.heap.size, i, none⟩ = some (.int .i64 (([-1, 5] : List Int).getD i 0))) := hide (cells2e w2 (-1) 5 2)
          have hw2l : b1 < w2.heap.size := E2.out.1.lt
          obtain ⟨⟨p0, p1, p2, p3⟩, pf⟩ := E2.out
          have pf3 := pf 3
          have hm1 : e.chunks.length + 1 ≤ maxLen := by unfold maxLen; omega
          have hm1' : (e.chunks.length + 1) * 8 ≤ 140737488355328 := by omega
          go_wp2_with fail
          go_region_law
            ((first
              | (have hO3 := O3; clear hO3; refine step_append_list (by rfl) (.tmp 28) (.tmp 32) 51 (by rfl) (w.heap.size + 1) 2 i0 (.int .i64 0) 1 8 Tryz.underlying51 hi0 hz0 hz1 hz2 rfl (by decide) (.slice a e.chunks.length c) e.chunks.length (e.chunks.map (Value.int .i64)) (by rfl) (O3.out.alloc _) ⟨w3.heap.size, 0, none⟩ 1 1 [.int .i64 v] (by rfl) (by rfl) (news_one rfl) (by intro u hu; simp at hu; subst hu; rfl) (e.chunks.length + 1) rfl hm1 hm1' (by have := K3.out.size; simp; omega) ?_; intro av4 cv4 w4 hown4 hk4; have O4 := hide hown4; have K4 := hide hk4; have E4 := (E3.out.below (below_alloc w3 _)).kept hk4 (fun hq => by have := OL.out b1 hq; omega); have c5 := E4.1.2.2.2; have f5 := E4.2 3; have E4 := hide E4; clear hown4 hk4)
              | (go_simp; go_wp2_with (go_at_call 73; refine (pick_e p w2.heap.size 2 2 [-1, 5] zs _ _ S2'.out HU.out (by omega) hl (by decide) (by decide) rfl (by omega) (by show w2.heap.size < (w2.alloc (.cells #[.int .i64 (-1), .int .i64 5] 2)).heap.size; simp) CC.out).mono ?_; rintro r w3 ⟨v, hv, rfl, s3, k3⟩; have c3 := (E2'.out.kept k3 (by omega)).1.2.2.2; have c4 : ∀ o, (w3.alloc o).cell? ⟨b1, 3, none⟩ = some (.slice a e.chunks.length c) := (fun o => ((E2'.out.kept k3 (by omega)).below (below_alloc w3 o)).1.2.2.2); have S3 := hide s3; have K3 := hide (K2'.trans k3); have E3 := hide (E2'.out.kept k3 (by omega)); have X3 := hide (X2'.out.kept k3 (by omega)); have O3 := hide (ownsRow_kept O2'.out k3 (fun b hb e => by have := O2'.out.lt b hb; omega)); clear s3 k3))))
          all_goals
            have X4 := hide ((X3.out.below (below_alloc w3 (.cells #[.int .i64 v] 2))).kept K4.out (fun hq => by have := OL.out _ hq; omega))
            have S4 := hide ((S3.out.below (below_alloc w3 (.cells #[.int .i64 v] 2))).kept K4.out (fun b hb hq => by have := OL.out b hq; omega))
            have K5 := hide ((K3.out.alloc (.cells #[.int .i64 v] 2)).trans_own K4.out (fun b hb hq => by have := OL.out b hq; omega))
            have hnl : (e.chunks ++ [v]).length = e.chunks.length + 1 := by simp
            have Q4 : Hid (w4.ownsRow (w.heap.size + 1) 2 1 (.slice av4 (e.chunks ++ [v]).length cv4) (e.chunks ++ [v]).length ((e.chunks ++ [v]).map (Value.int .i64))) := hide (by rw [hnl, List.map_append]; exact O4.out)
            have hne : ∀ b, (Value.slice av4 (e.chunks ++ [v]).length cv4).ownBlock = some b → b ≠ b1 ∧ b ≠ w.heap.size := by
              intro b hb
              have hge := Q4.out.lt b hb
              refine ⟨fun hbb => ?_, by omega⟩
              obtain ⟨g, cap, hv, h1, h2, h3, h4⟩ := ownsRow_ints Q4.out rfl (by omega)
              rw [hv] at hb
              have hg : g = b := by simpa [Value.ownBlock] using hb
              have h5 := h3 0 (by omega)
              rw [hg, hbb, E4.out.1.1] at h5
              cases h5
            clear p0 p1 p2 p3 pf pf3
            obtain ⟨⟨p0, p1, p2, p3⟩, pf⟩ := E4.out
            obtain ⟨⟨q0, q1, q2, q3⟩, qf⟩ := X4.out
            have pf0 := pf 0
            have pf1 := pf 1
            have pf2 := pf 2
            have pf3 := pf 3
            have qf0 := qf 0
            have qf1 := qf 1
            have qf2 := qf 2
            have qf3 := qf 3
            have hlt3 : b1 < w4.heap.size := World.block_lt_of_cell? _ _ p0
            clear pf qf
            go_wp2_with fail
            have hk : Kept (fun b => b = b1 ∨ b = w.heap.size) w4 (((((w4.setCell ⟨b1, 3, none⟩ (.slice av4 (e.chunks.length + 1) cv4)).setCell ⟨w.heap.size, 0, none⟩ (.string (str e.path))).setCell ⟨w.heap.size, 1, none⟩ (.int .i64 e.kind)).setCell ⟨w.heap.size, 2, none⟩ (.int .i64 e.size)).setCell ⟨w.heap.size, 3, none⟩ (.slice av4 (e.chunks.length + 1) cv4)) := Kept.setCell (S := fun b => b = b1 ∨ b = w.heap.size) (p := ⟨w.heap.size, 3, none⟩) (Kept.setCell (S := fun b => b = b1 ∨ b = w.heap.size) (p := ⟨w.heap.size, 2, none⟩) (Kept.setCell (S := fun b => b = b1 ∨ b = w.heap.size) (p := ⟨w.heap.size, 1, none⟩) (Kept.setCell (S := fun b => b = b1 ∨ b = w.heap.size) (p := ⟨w.heap.size, 0, none⟩) (Kept.setCell (S := fun b => b = b1 ∨ b = w.heap.size) (p := ⟨b1, 3, none⟩) (Kept.refl _ _) (fun _ => .inl rfl) _) (fun _ => .inr rfl) _) (fun _ => .inr rfl) _) (fun _ => .inr rfl) _) (fun _ => .inr rfl) _
            refine bodyPost_ret (v := .agg #[(.string (str e.path)), (.int .i64 e.kind), (.int .i64 e.size), (.slice av4 (e.chunks.length + 1) cv4)]) (by simp [results, Tryz.results121, go_sem, q0, q1, q2, q3]) rfl ⟨⟨e.path, e.kind, e.size, e.chunks ++ [v]⟩, av4, cv4, by rw [hnl], ⟨hxl, by rw [hnl]; omega⟩, ?_, (S4.out.kept hk (fun b hb e => by omega)).mono (by omega), K5.out.trans_own hk (fun b hb e => by omega)⟩
            exact ownsRow_mono (ownsRow_kept Q4.out hk (fun b hb hS => by have := hne b hb; omega)) (by omega)
        · have e0 : ((i : Int) == 0) = false := by simp; omega
          have e1 : ((i : Int) == 1) = false := by simp; omega
          have e2 : ((i : Int) == 2) = false := by simp; omega
          have e3 : ((i : Int) == 3) = false := by simp; omega
          clear h0 h1 h2 h3
          have S3 := S2
          have K3 := K2
          have E3 := E2
          have X3 := X2
          have O3 := O2
          obtain ⟨⟨p0, p1, p2, p3⟩, pf⟩ := E3.out
          obtain ⟨⟨q0, q1, q2, q3⟩, qf⟩ := X3.out
          have pf0 := pf 0
          have pf1 := pf 1
          have pf2 := pf 2
          have pf3 := pf 3
          have qf0 := qf 0
          have qf1 := qf 1
          have qf2 := qf 2
          have qf3 := qf 3
          have hlt3 : b1 < w2.heap.size := World.block_lt_of_cell? _ _ p0
          clear pf qf
          go_wp2_with fail
          have hk : Kept (fun b => b = b1 ∨ b = w.heap.size) w2 ((((w2.setCell ⟨w.heap.size, 0, none⟩ (.string (str e.path))).setCell ⟨w.heap.size, 1, none⟩ (.int .i64 e.kind)).setCell ⟨w.heap.size, 2, none⟩ (.int .i64 e.size)).setCell ⟨w.heap.size, 3, none⟩ (.slice a e.chunks.length c)) := Kept.setCell (S := fun b => b = b1 ∨ b = w.heap.size) (p := ⟨w.heap.size, 3, none⟩) (Kept.setCell (S := fun b => b = b1 ∨ b = w.heap.size) (p := ⟨w.heap.size, 2, none⟩) (Kept.setCell (S := fun b => b = b1 ∨ b = w.heap.size) (p := ⟨w.heap.size, 1, none⟩) (Kept.setCell (S := fun b => b = b1 ∨ b = w.heap.size) (p := ⟨w.heap.size, 0, none⟩) (Kept.refl _ _) (fun _ => .inr rfl) _) (fun _ => .inr rfl) _) (fun _ => .inr rfl) _) (fun _ => .inr rfl) _
          refine bodyPost_ret (v := .agg #[(.string (str e.path)), (.int .i64 e.kind), (.int .i64 e.size), (.slice a e.chunks.length c)]) (by simp [results, Tryz.results121, go_sem, q0, q1, q2, q3]) rfl ⟨⟨e.path, e.kind, e.size, e.chunks⟩, a, c, rfl, ⟨by first | exact hyl | exact hxl, by first | exact hc3 | exact hc4⟩, ?_, (S3.out.kept hk (fun b hb e => by omega)).mono (by omega), K3.out.trans_own hk (fun b hb e => by omega)⟩
          exact ownsRow_mono (ownsRow_kept O3.out hk (fun b hb hS => by have := OL.out b hb; omega)) (by omega)

end Go.Proofs.YtebgfaohhhgdpaaGreat

