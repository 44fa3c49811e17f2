/-
  Texts put together: Draw DrawP DrawS PathA LayL Ents EntF.
-/
import Derived.Test.YtejipahfodhmjaaGreatKLater1
import GoSem.Op.String
import Derived.Deep.RegionHeld3
import Derived.Handy
namespace Go.Proofs.YtejipahfodhmjaaGreat
open Go.RowKit
set_option linter.unusedVariables false

def Src (w : World) (p : Nat) (zs : List Int) (t : Int) : Prop :=
  ∃ a c, w.cell? ⟨p, 0, none⟩ = some (.slice a zs.length c) ∧ w.cell? ⟨p, 1, none⟩ = some (.int .i64 t) ∧ w.frozen? ⟨p, 1, none⟩ = false ∧ Reads .u8 w a zs ∧ (zs ≠ [] → ∀ x, a = some x → x.block < p)

theorem Src.step {w : World} {p : Nat} {zs : List Int} {t : Int} (h : Src w p zs t) (s : Int) : Src (w.setCell ⟨p, 1, none⟩ (.int .i64 s)) p zs s ∧ Kept (fun b => b = p) w (w.setCell ⟨p, 1, none⟩ (.int .i64 s)) := by
  obtain ⟨a, c, q0, q1, q2, hr, hap⟩ := h
  have hk : Kept (fun b => b = p) w (w.setCell ⟨p, 1, none⟩ (.int .i64 s)) := Kept.setCell (S := fun b => b = p) (p := ⟨p, 1, none⟩) (Kept.refl _ w) (fun _ => rfl) _
  refine ⟨⟨a, c, ?_, cell_set_same q1, by rw [World.frozen?_setCell]; exact q2, hr.kept hk (fun hz x hx e => by have := hap hz x hx; omega), hap⟩, hk⟩
  rw [cell_set_other (by intro e; have := congrArg Addr.off e; simp at this)]; exact q0

theorem Src.drewN {w : World} {p : Nat} {zs : List Int} {t : Int} (h : Src w p zs t) (n : Nat) : Src (w.drewN n) p zs t := h

theorem Src.kept {S : Nat → Prop} {w w' : World} {p : Nat} {zs : List Int} {t : Int} (h : Src w p zs t) (hk : Kept S w w') (hS : ∀ b, b ≤ p → ¬ S b) : Src w' p zs t := by
  obtain ⟨a, c, q0, q1, q2, hr, hap⟩ := h
  have hlt := World.block_lt_of_cell? w ⟨p, 0, none⟩ q0
  have hp := hS p (Nat.le_refl _)
  exact ⟨a, c, (hk.cell (p := ⟨p, 0, none⟩) hlt hp).trans q0, (hk.cell (p := ⟨p, 1, none⟩) hlt hp).trans q1, (hk.frozen (p := ⟨p, 1, none⟩) hlt hp).trans q2, hr.kept hk (fun hz x hx => hS _ (Nat.le_of_lt (hap hz x hx))), hap⟩

theorem Src.below {w w' : World} {p : Nat} {zs : List Int} {t : Int} (h : Src w p zs t) (hk : Below w.heap.size w w') : Src w' p zs t :=
  Src.kept (S := fun _ => False) h (Kept.of_below hk) (fun _ _ => id)
theorem Src.lt {w : World} {p : Nat} {zs : List Int} {t : Int} (h : Src w p zs t) : p < w.heap.size := by
  obtain ⟨a, c, q0, _⟩ := h
  exact World.block_lt_of_cell? w ⟨p, 0, none⟩ q0

theorem rem_bd (v n : Int) (hn : 1 ≤ n) : 0 ≤ v % n ∧ v % n < n := ⟨Int.emod_nonneg _ (by omega), Int.emod_lt_of_pos _ (by omega)⟩
theorem mod_bd (t : Int) (k : Nat) (hk : 0 < k) : 0 ≤ t % (k : Int) ∧ t % (k : Int) < (k : Int) := ⟨Int.emod_nonneg _ (by omega), Int.emod_lt_of_pos _ (by omega)⟩
theorem div_bd (t : Int) (k : Nat) (h0 : 0 ≤ t) : 0 ≤ t / (k : Int) ∧ t / (k : Int) ≤ t := ⟨Int.ediv_nonneg h0 (by omega), Int.ediv_le_self _ h0⟩

set_option maxHeartbeats 1600000 in
theorem l1Next_big (p : Nat) (zs : List Int) (t n : Int) (w : World) (h : Src w p zs t) (hu : U8 zs) (ht0 : 0 ≤ t) (ht1 : t ≤ 1099511627776) (hn0 : 1 ≤ n) (hn1 : n ≤ 2147483648) (hl : zs.length ≤ 2097152) :
    Calls Tryz.prog 47 #[.pointer (some ⟨p, 0, none⟩), .int .i64 n] w fun e w' => ∃ r, e = .returned (.int .i64 r) ∧ 0 ≤ r ∧ r < n ∧ Src w' p zs (t + 1) ∧ Kept (fun b => b = p) w w' := by
  have HS := hide (h.step (t + 1))
  obtain ⟨a, c, q0, q1, q2, hr, hap⟩ := h
  by_cases hz : zs = []
  · have hn : zs.length = 0 := by rw [hz]; rfl
    rw [hn] at q0
    have hmod : 0 ≤ t * 7 % n ∧ t * 7 % n < n := ⟨Int.emod_nonneg _ (by omega), Int.emod_lt_of_pos _ (by omega)⟩
    have HM := hide hmod
    clear hmod hr hap hz hn
    go_enter Tryz.func47, Tryz.ntmps47
    go_wp2
    go_ret
    exact ⟨_, rfl, HM.out.1, HM.out.2, HS.out.1, HS.out.2⟩
  · obtain ⟨b, off, rfl, hb, hc⟩ := hr hz
    have hlen : 0 < zs.length := List.length_pos_iff.2 hz
    have hne : ((zs.length : Int) == 0) = false := by simp; omega
    have hbp : b ≠ p := by have := hap hz _ rfl; simp at this; omega
    obtain ⟨m0, m1⟩ := mod_bd t zs.length hlen
    obtain ⟨m2, m3⟩ := mod_bd (t + 1) zs.length hlen
    obtain ⟨d0, d1⟩ := div_bd t zs.length ht0
    have hz1 := hu.get (t % (zs.length : Int)).toNat
    have hz2 := hu.get ((t + 1) % (zs.length : Int)).toNat
    have c1 := hc (t % (zs.length : Int)).toNat (by omega)
    have c2 := hc ((t + 1) % (zs.length : Int)).toNat (by omega)
    generalize zs.getD (t % (zs.length : Int)).toNat 0 = z1 at hz1 c1
    generalize zs.getD ((t + 1) % (zs.length : Int)).toNat 0 = z2 at hz2 c2
    generalize hW : w.setCell ⟨p, 1, none⟩ (.int .i64 (t + 1)) = W at HS
    have k0 : W.cell? ⟨p, 0, none⟩ = some (.slice (some ⟨b, off, none⟩) zs.length c) := by rw [← hW, cell_set_other (by intro e; have := congrArg Addr.off e; simp at this)]; exact q0
    have k1 : W.cell? ⟨p, 1, none⟩ = some (.int .i64 (t + 1)) := by rw [← hW]; exact cell_set_same q1
    have k2 : W.cell? ⟨b, off + (t % (zs.length : Int)).toNat, none⟩ = some (.int .u8 z1) := by rw [← hW]; exact cell_set_far (fun e => hbp e.symm) c1
    have k3 : W.cell? ⟨b, off + ((t + 1) % (zs.length : Int)).toNat, none⟩ = some (.int .u8 z2) := by rw [← hW]; exact cell_set_far (fun e => hbp e.symm) c2
    have HW := hide hW
    clear hW c1 c2 hc hr hap hz
    by_cases h200 : 200 < n
    · go_enter Tryz.func47, Tryz.ntmps47
      go_wp2
      rw [HW.out]
      go_quiet (fail)
      go_wp2
      go_quiet (fail)
      go_wp2
      go_ret
      exact ⟨_, rfl, (rem_bd _ n hn0).1, (rem_bd _ n hn0).2, HS.out.1.drewN _, HS.out.2.drewN _⟩
    · go_enter Tryz.func47, Tryz.ntmps47
      go_wp2
      rw [HW.out]
      go_quiet (fail)
      go_wp2
      go_ret
      exact ⟨_, rfl, (rem_bd _ n hn0).1, (rem_bd _ n hn0).2, HS.out.1.drewN _, HS.out.2.drewN _⟩
theorem l1Next_any (p : Nat) (zs : List Int) (t n : Int) (w : World) (h : Src w p zs t) (hu : U8 zs) (ht0 : 0 ≤ t) (ht1 : t ≤ 1099511627776) (hn0 : 1 ≤ n) (hn1 : n ≤ 2147483648) (hl : zs.length ≤ 1048576) :
    Calls Tryz.prog 47 #[.pointer (some ⟨p, 0, none⟩), .int .i64 n] w fun e w' => ∃ r, e = .returned (.int .i64 r) ∧ 0 ≤ r ∧ r < n ∧ Src w' p zs (t + 1) ∧ Kept (fun b => b = p) w w' :=
  l1Next_big p zs t n w h hu ht0 ht1 hn0 hn1 (by omega)

set_option maxHeartbeats 400000 in
theorem l1Source_any (a : Option Addr) (cap : Nat) (zs : List Int) (w : World) (h : Reads .u8 w a zs) :
    Calls Tryz.prog 45 #[.slice a zs.length cap] w fun e w' => e = .returned (.pointer (some ⟨w.heap.size, 0, none⟩)) ∧ Src w' w.heap.size zs 0 ∧ w'.heap.size = w.heap.size + 1 ∧ Below w.heap.size w w' := by
  have HR := hide h
  clear h
  go_enter Tryz.func45, Tryz.ntmps45
  go_wp2
  go_ret
  refine ⟨rfl, ⟨a, cap, by simp, by simp, by simp, HR.out.below (below_alloc _ _), fun hz x hx => ?_⟩, by simp, below_alloc _ _⟩
  obtain ⟨b, off, rfl, hb, _⟩ := HR.out hz
  simp at hx
  subst hx
  exact hb

set_option maxHeartbeats 800000 in
theorem l1Pick_big (p g c m : Nat) (vs : List Int) (zs : List Int) (t : Int) (w : World) (h : Src w p zs t) (hu : U8 zs) (ht0 : 0 ≤ t) (ht1 : t ≤ 1099511627776) (hl : zs.length ≤ 2097152)
    (hm0 : 0 < m) (hm1 : m ≤ 1000) (hm : m = vs.length) (hg : g ≠ p) (hgl : g < w.heap.size) (hc : ∀ i, i < m → w.cell? ⟨g, i, none⟩ = some (.int .i64 (vs.getD i 0))) :
    Calls Tryz.prog 116 #[.pointer (some ⟨p, 0, none⟩), .slice (some ⟨g, 0, none⟩) m c] w fun e w' => ∃ v, v ∈ vs ∧ e = .returned (.int .i64 v) ∧ Src w' p zs (t + 1) ∧ Kept (fun b => b = p) w w' := by
  have HS := hide h
  have HU := hide hu
  have HC := hide hc
  have HM := hide hm
  clear h hu hc hm
  go_enter Tryz.func116, Tryz.ntmps116
  go_wp2_with fail
  refine (l1Next_big p zs t _ _ HS.out HU.out ht0 ht1 (by omega) (by omega) hl).mono ?_
  rintro e w1 ⟨r, rfl, r0, r1, s1, k1⟩
  obtain ⟨j, rfl⟩ := Int.eq_ofNat_of_zero_le r0
  have hj : j < m := by omega
  have hcj := HC.out j hj
  have hmem : vs.getD j 0 ∈ vs := by
    have hj2 : j < vs.length := by have := HM.out; omega
    have e : vs.getD j 0 = vs[j] := by simp [List.getD_eq_getElem?_getD, hj2]
    rw [e]; exact List.getElem_mem hj2
  generalize vs.getD j 0 = v at hcj hmem
  have hc1 : w1.cell? ⟨g, j, none⟩ = some (.int .i64 v) := (k1.cell (p := ⟨g, j, none⟩) hgl hg).trans hcj
  have S1 := hide s1
  have K1 := hide k1
  have M1 := hide hmem
  clear s1 k1 hcj hmem
  go_wp2_with fail
  go_ret
  exact ⟨v, M1.out, rfl, S1.out, K1.out⟩
theorem l1Pick_any (p g c m : Nat) (vs : List Int) (zs : List Int) (t : Int) (w : World) (h : Src w p zs t) (hu : U8 zs) (ht0 : 0 ≤ t) (ht1 : t ≤ 1099511627776) (hl : zs.length ≤ 1048576)
    (hm0 : 0 < m) (hm1 : m ≤ 1000) (hm : m = vs.length) (hg : g ≠ p) (hgl : g < w.heap.size) (hc : ∀ i, i < m → w.cell? ⟨g, i, none⟩ = some (.int .i64 (vs.getD i 0))) :
    Calls Tryz.prog 116 #[.pointer (some ⟨p, 0, none⟩), .slice (some ⟨g, 0, none⟩) m c] w fun e w' => ∃ v, v ∈ vs ∧ e = .returned (.int .i64 v) ∧ Src w' p zs (t + 1) ∧ Kept (fun b => b = p) w w' :=
  l1Pick_big p g c m vs zs t w h hu ht0 ht1 (by omega) hm0 hm1 hm hg hgl hc

set_option maxHeartbeats 800000 in
theorem l1Some_big (p : Nat) (n : Nat) (zs : List Int) (t : Int) (w : World) (h : Src w p zs t) (hu : U8 zs) (ht0 : 0 ≤ t) (ht1 : t ≤ 549755813888) (hl : zs.length ≤ 2097152) (hn : n ≤ 1048576) (hp : p < w.heap.size) :
    Calls Tryz.prog 46 #[.pointer (some ⟨p, 0, none⟩), .int .i64 n] w fun e w' => ∃ a c ds, e = .returned (.slice a n c) ∧ ds.length = n ∧ U8 ds ∧ w'.ownsRow w.heap.size 5 1 (.slice a n c) n (ds.map (Value.int .u8)) ∧ Src w' p zs (t + n) ∧ Kept (fun b => b = p) w w' := by
  obtain ⟨i0, hi, hz0, hz1, hz2⟩ := info_parts Tryz.infoU8
  have HS := hide (h.below (below_alloc w (.cells #[] 5)))
  have HU := hide hu
  clear h hu
  go_enter Tryz.func46, Tryz.ntmps46
  go_wp2
  go_loopw [1, 5] (fun q v wr => ∃ j : Nat, ∃ ds : List Int, j ≤ n ∧ q = .int .i64 ((n : Int) - j) ∧ ds.length = j ∧ U8 ds ∧ wr.ownsRow w.heap.size 5 1 v j (ds.map (Value.int .u8)) ∧ Src wr p zs (t + j) ∧ Kept (fun b => b = p) w wr) (fun q _ _ => (intOf q).toNat)
  case atStart => exact ⟨0, [], Nat.zero_le _, by simp, rfl, fun z hz => by simp at hz, World.ownsRow_made w #[] 0 (Nat.le_refl _) (Nat.zero_le _) rfl, by simpa using HS.out, (Kept.refl _ _).alloc _⟩
  case round =>
    obtain ⟨j, ds, hj, rfl, hds, hU, hown, hsrc, hkept⟩ := hrel
    by_cases hlt : j < n
    · have hgt : (0 : Int) < (n : Int) - j := by omega
      have hsz := hkept.size
      have hm1 : j + 1 ≤ maxLen := by unfold maxLen; omega
      have hm2 : (j + 1) * 1 ≤ 140737488355328 := by omega
      have H1 := hide hds
      have H2 := hide hU
      have H3 := hide hown
      have H4 := hide hsrc
      have H5 := hide hkept
      clear hds hU hown hsrc hkept
      go_wp2_with (first | (go_at_call 47; refine (l1Next_big p zs _ _ _ H4.out HU.out (by omega) (by omega) (by omega) (by omega) hl).mono ?_; rintro e w1 ⟨r, rfl, r0, r1, s1, k1⟩; have S1 := hide s1; have K1 := hide k1; have O1 := hide (ownsRow_kept H3.out k1 (fun b hb e => by have := (H3.out.lt b hb).1; omega)); have hsz1 : w.heap.size ≤ w1.heap.size := Nat.le_trans hsz k1.size; clear s1 k1) | (at_builtin; refine wpList_append_one rfl (.tmp 11) (.tmp 16) 22 rfl w.heap.size 5 i0 (.int .u8 0) 1 1 Tryz.underlying22 hi hz0 hz1 hz2 rfl (by decide) _ _ _ rfl O1.out rfl rfl (by intro u hu; simp at hu; subst hu; rfl) hm1 hm2 hsz1 ?_; intro v' w2 hown2 hkept2; have O2 := hide hown2; have K2 := hide hkept2; clear hown2 hkept2))
      have hp1 : ∀ b, b ≤ p → ¬ (u5.ownBlock = some b) := fun b hb e => by have := (H3.out.lt b e).1; omega
      go_roundw
      case rel =>
        refine ⟨j + 1, ds ++ [97 + r], by omega, by go_num, by simp [H1.out], fun z hz => ?_, by simpa using O2.out, ?_, ?_⟩
        · rcases List.mem_append.1 hz with hz | hz
          · exact H2.out z hz
          · simp at hz; omega
        · have := S1.out.kept K2.out hp1
          rwa [show t + (j : Int) + 1 = t + ((j + 1 : Nat) : Int) from by omega] at this
        · exact (H5.out.trans K1.out).trans_own K2.out (fun b hb e => by have := (O1.out.lt b e).1; omega)
      case measure => simp [intOf]; omega
    · have hje : j = n := by omega
      subst hje
      obtain ⟨av, cv, rfl⟩ := ownsRow_shape hown
      have hz : ¬ (0 : Int) < (j : Int) - j := by omega
      go_wp2
      go_ret
      exact ⟨av, cv, rfl, ds, hds, hU, hown, hsrc, hkept⟩
theorem l1Some_any (p : Nat) (n : Nat) (zs : List Int) (t : Int) (w : World) (h : Src w p zs t) (hu : U8 zs) (ht0 : 0 ≤ t) (ht1 : t ≤ 549755813888) (hl : zs.length ≤ 1048576) (hn : n ≤ 1048576) (hp : p < w.heap.size) :
    Calls Tryz.prog 46 #[.pointer (some ⟨p, 0, none⟩), .int .i64 n] w fun e w' => ∃ a c ds, e = .returned (.slice a n c) ∧ ds.length = n ∧ U8 ds ∧ w'.ownsRow w.heap.size 5 1 (.slice a n c) n (ds.map (Value.int .u8)) ∧ Src w' p zs (t + n) ∧ Kept (fun b => b = p) w w' :=
  l1Some_big p n zs t w h hu ht0 ht1 (by omega) hn hp


end Go.Proofs.YtejipahfodhmjaaGreat

namespace Go.Proofs.YtejipahfodhmjaaGreat
open Go.RowKit
set_option linter.unusedVariables false

theorem cells5' (w : World) (a b c d e : Int) (t : TypeId) : ∀ i, i < 5 → (w.alloc (.cells #[.int .i64 a, .int .i64 b, .int .i64 c, .int .i64 d, .int .i64 e] t)).cell? ⟨w.heap.size, i, none⟩ = some (.int .i64 ([a, b, c, d, e].getD i 0)) := by
  intro i hi
  match i, hi with
  | 0, _ | 1, _ | 2, _ | 3, _ | 4, _ => simp
theorem join_small : ∀ (ns : List Bs), (∀ n ∈ ns, n.length ≤ 2) → (joinB ns).length ≤ 3 * ns.length
  | [], _ => by simp [joinB]
  | n :: ns, h => by
    have := join_small ns (fun m hm => h m (by simp [hm]))
    have := h n (by simp)
    simp [joinB]; omega

end Go.Proofs.YtejipahfodhmjaaGreat

namespace Go.Proofs.YtejipahfodhmjaaGreat
open Go.RowKit Go.Maps
set_option linter.unusedVariables false

def SrcX (w : World) (p : Nat) (zs : List Int) (T : Int) : Prop := ∃ t, 0 ≤ t ∧ t ≤ T ∧ Src w p zs t
theorem SrcX.kept {S : Nat → Prop} {w w' : World} {p : Nat} {zs : List Int} {T : Int} (h : SrcX w p zs T) (hk : Kept S w w') (hS : ∀ b, b ≤ p → ¬ S b) : SrcX w' p zs T := by
  obtain ⟨t, h0, h1, hs⟩ := h
  exact ⟨t, h0, h1, hs.kept hk hS⟩
theorem SrcX.below {w w' : World} {p : Nat} {zs : List Int} {T : Int} (h : SrcX w p zs T) (hk : Below w.heap.size w w') : SrcX w' p zs T := by
  obtain ⟨t, h0, h1, hs⟩ := h
  exact ⟨t, h0, h1, hs.below hk⟩
theorem SrcX.lt {w : World} {p : Nat} {zs : List Int} {T : Int} (h : SrcX w p zs T) : p < w.heap.size := by
  obtain ⟨t, _, _, hs⟩ := h
  exact hs.lt
theorem SrcX.mono {w : World} {p : Nat} {zs : List Int} {T T' : Int} (h : SrcX w p zs T) (hT : T ≤ T') : SrcX w p zs T' := by
  obtain ⟨t, h0, h1, hs⟩ := h
  exact ⟨t, h0, by omega, hs⟩
theorem next_e (p : Nat) (zs : List Int) (T n : Int) (w : World) (h : SrcX w p zs T) (hu : U8 zs) (hT : T ≤ 1000000) (hn0 : 1 ≤ n) (hn1 : n ≤ 1000) (hl : zs.length ≤ 2097152) :
    Calls Tryz.prog 47 #[.pointer (some ⟨p, 0, none⟩), .int .i64 n] w fun e w' => ∃ r : Nat, e = .returned (.int .i64 r) ∧ (r : Int) < n ∧ SrcX w' p zs (T + 1) ∧ Kept (fun b => b = p) w w' := by
  obtain ⟨t, h0, h1, hs⟩ := h
  refine (l1Next_big p zs t n w hs hu h0 (by omega) hn0 (by omega) hl).mono ?_
  rintro e w' ⟨r, rfl, r0, r1, s1, k1⟩
  exact ⟨r.toNat, by rw [Int.toNat_of_nonneg r0], by omega, ⟨t + 1, by omega, by omega, s1⟩, k1⟩
theorem pick_e (p g c m : Nat) (vs : List Int) (zs : List Int) (T : Int) (w : World) (h : SrcX w p zs T) (hu : U8 zs) (hT : T ≤ 1000000) (hl : zs.length ≤ 2097152)
    (hm0 : 0 < m) (hm1 : m ≤ 1000) (hm : m = vs.length) (hg : g ≠ p) (hgl : g < w.heap.size) (hc : ∀ i, i < m → w.cell? ⟨g, i, none⟩ = some (.int .i64 (vs.getD i 0))) :
    Calls Tryz.prog 116 #[.pointer (some ⟨p, 0, none⟩), .slice (some ⟨g, 0, none⟩) m c] w fun e w' => ∃ v, v ∈ vs ∧ e = .returned (.int .i64 v) ∧ SrcX w' p zs (T + 1) ∧ Kept (fun b => b = p) w w' := by
  obtain ⟨t, h0, h1, hs⟩ := h
  refine (l1Pick_big p g c m vs zs t w hs hu h0 (by omega) hl hm0 hm1 hm hg hgl hc).mono ?_
  rintro e w' ⟨v, hv, rfl, s1, k1⟩
  exact ⟨v, hv, rfl, ⟨t + 1, by omega, by omega, s1⟩, k1⟩
theorem some_e (p : Nat) (n : Nat) (zs : List Int) (T : Int) (w : World) (h : SrcX w p zs T) (hu : U8 zs) (hT : T ≤ 1000000) (hl : zs.length ≤ 2097152) (hn : n ≤ 1000) :
    Calls Tryz.prog 46 #[.pointer (some ⟨p, 0, none⟩), .int .i64 n] w fun e w' => ∃ a c ds, e = .returned (.slice a n c) ∧ ds.length = n ∧ U8 ds ∧ w'.ownsRow w.heap.size 5 1 (.slice a n c) n (ds.map (Value.int .u8)) ∧ SrcX w' p zs (T + n) ∧ Kept (fun b => b = p) w w' := by
  have hp := h.lt
  obtain ⟨t, h0, h1, hs⟩ := h
  refine (l1Some_big p n zs t w hs hu h0 (by omega) hl (by omega) hp).mono ?_
  rintro e w' ⟨a, c, ds, rfl, hd, hu, ho, s1, k1⟩
  exact ⟨a, c, ds, rfl, hd, hu, ho, ⟨t + n, by omega, by omega, s1⟩, k1⟩
set_option maxHeartbeats 800000 in
theorem chance_e (p : Nat) (zs : List Int) (T n : Int) (w : World) (h : SrcX w p zs T) (hu : U8 zs) (hT : T ≤ 1000000) (hn0 : 1 ≤ n) (hn1 : n ≤ 1000) (hl : zs.length ≤ 2097152) :
    Calls Tryz.prog 74 #[.pointer (some ⟨p, 0, none⟩), .int .i64 n] w fun e w' => ∃ r : Bool, e = .returned (.bool r) ∧ SrcX w' p zs (T + 1) ∧ Kept (fun b => b = p) w w' := by
  have HS := hide h
  have HU := hide hu
  clear h hu
  go_enter Tryz.func74, Tryz.ntmps74
  go_wp2_with fail
  refine (next_e p zs T n _ HS.out HU.out hT hn0 hn1 hl).mono ?_
  rintro e w1 ⟨r, rfl, r1, s1, k1⟩
  have S1 := hide s1
  have K1 := hide k1
  clear s1 k1
  go_wp2_with fail
  go_ret
  exact ⟨_, rfl, S1.out, K1.out⟩

def TextsQ (Q : Bs → Prop) (w : World) (g n : Nat) : Prop := g < w.heap.size ∧ ∀ i, i < n → ∃ x : Bs, w.cell? ⟨g, i, none⟩ = some (.string (str x)) ∧ Q x
theorem TextsQ.new {Q : Bs → Prop} {w : World} {t : TypeId} {vs : List Bs} (h : ∀ x ∈ vs, Q x) : TextsQ Q (w.alloc (.cells (vs.map vS).toArray t)) w.heap.size vs.length := by
  refine ⟨by simp, fun i hi => ⟨vs[i], ?_, h _ (List.getElem_mem hi)⟩⟩
  rw [cell_of_row _ w.heap.size i (vs.map vS).toArray t (0, 0) (heap_alloc_new w _)]
  simp [hi, vS]
theorem TextsQ.kept {Q : Bs → Prop} {S : Nat → Prop} {w w' : World} {g n : Nat} (h : TextsQ Q w g n) (hk : Kept S w w') (hn : ¬ S g) : TextsQ Q w' g n :=
  ⟨Nat.lt_of_lt_of_le h.1 hk.size, fun i hi => by obtain ⟨x, hx, hl⟩ := h.2 i hi; exact ⟨x, (hk.cell (p := ⟨g, i, none⟩) h.1 hn).trans hx, hl⟩⟩

set_option maxRecDepth 100000 in
set_option maxHeartbeats 800000 in
theorem name_e (p : Nat) (zs : List Int) (T : Int) (w : World) (h : SrcX w p zs T) (hu : U8 zs) (hT : T ≤ 1000000) (hl : zs.length ≤ 2097152) :
    Calls Tryz.prog 151 #[.pointer (some ⟨p, 0, none⟩)] w fun e w' => ∃ x : Bs, e = .returned (.string (str x)) ∧ (plain x = true ∧ x.length ≤ 2) ∧ SrcX w' p zs (T + 1) ∧ Kept (fun b => b = p) w w' := by
  have hp := h.lt
  have T0 := hide (TextsQ.new (Q := fun x => plain x = true ∧ x.length ≤ 2) (w := w) (t := 9) (vs := [[97], [98], [99], [97, 98]]) (by decide))
  have HS := hide (h.below (below_alloc w (.cells ([[97], [98], [99], [97, 98]].map vS).toArray 9)))
  have HU := hide hu
  clear h hu
  go_enter Tryz.func151, Tryz.ntmps151
  go_wp2_with fail
  refine (next_e p zs T 4 _ HS.out HU.out hT (by decide) (by decide) hl).mono ?_
  rintro e w1 ⟨i, rfl, r1, s1, k1⟩
  have T1 := hide (T0.out.kept k1 (by omega))
  have S1 := hide s1
  have K1 := hide (((Kept.refl (fun b => b = p) w).alloc (.cells ([[97], [98], [99], [97, 98]].map vS).toArray 9)).trans k1)
  clear s1 k1 T0 HS
  obtain ⟨x, hx, hxl⟩ := T1.out.2 i (by simp; omega)
  have hb := T1.out.1
  have HX := hide hxl
  clear hxl
  go_wp2_with fail
  go_ret
  exact ⟨x, rfl, HX.out, S1.out, K1.out⟩

end Go.Proofs.YtejipahfodhmjaaGreat

namespace Go.Proofs.YtejipahfodhmjaaGreat
open Go.RowKit
set_option linter.unusedVariables false

def aboveK (ns : List Bs) (m : Nat) : List Bs := (List.range m).map fun k => joinB (ns.take (k + 1))
theorem aboveK_succ (ns : List Bs) (m : Nat) : aboveK ns (m + 1) = aboveK ns m ++ [joinB (ns.take (m + 1))] := by simp [aboveK, List.range_succ]
theorem aboveK_length (ns : List Bs) (m : Nat) : (aboveK ns m).length = m := by simp [aboveK]
theorem join_cut_len (s : ByteArray) : (joinB (cutB s.data.toList.tail)).length ≤ s.size + 1 := by
  rw [join_cut, List.length_cons, List.length_tail, ← Lib.size_eq]; omega

set_option maxRecDepth 100000 in
set_option maxHeartbeats 1600000 in
theorem l3Above_any (s : ByteArray) (w : World) (h1 : 1 ≤ s.size) (hs : s.size ≤ 2097152) :
    Calls Tryz.prog 145 #[.string s] w fun e w' => ∃ v, e = .returned v ∧ OwnS w.heap.size w' v (aboveN (cutB s.data.toList.tail)) ∧ Below w.heap.size w w' := by
  obtain ⟨i1, ki, kz0, kz1, kz2⟩ := info_parts infoS
  have h1' : (1 : Int) ≤ (s.size : Int) := by omega
  have hel := extract_le s 1 s.size
  have HT := hide (tail_data s)
  have hcl := cutB_length s.data.toList.tail
  have hel2 : s.data.toList.tail.length ≤ s.size := by rw [List.length_tail, ← Lib.size_eq]; omega
  have hjl := join_cut_len s
  have hpos := List.length_pos_iff.2 (cutB_ne s.data.toList.tail)
  generalize hns : cutB s.data.toList.tail = ns at *
  have HN := hide hns
  clear hns
  go_enter Tryz.func145, Tryz.ntmps145
  go_wp2_with fail
  refine (l3Cut_any _ _ (by omega)).mono ?_
  rintro e w1 ⟨v, rfl, hO, hb1⟩
  rw [HT.out, HN.out] at hO
  obtain ⟨na, nc, rfl⟩ := hO.shape
  have hnc := hO.cap rfl
  have HR := hide hO.reads
  have HB := hide hb1
  have HPB := hide (fun b (hb : na.map Addr.block = some b) => hO.lt b (by cases na with | none => simp at hb | some x => simpa [Value.ownBlock] using hb))
  have n1 := hb1.size
  clear hO hb1
  go_wp2_with fail
  go_loopw [4, 5] (fun v i wr => ∃ m : Nat, m + 1 ≤ ns.length ∧ i = .int .i64 (m + 1) ∧ Hid (OwnS w1.heap.size wr v (aboveK ns m)) ∧ Hid (ReadsS wr na ns) ∧ Hid (Below w.heap.size w wr) ∧ w1.heap.size ≤ wr.heap.size) (fun _ i _ => ns.length - (intOf i).toNat)
  case atStart => exact ⟨0, by omega, rfl, hide (World.ownsRow_made (base := w1.heap.size) (e := 9) (size := 1) w1 #[] 0 (Nat.le_refl _) (Nat.zero_le _) rfl), hide (HR.out.below (below_alloc _ _)), hide (below_next HB.out (below_alloc _ _)), by simp⟩
  case round =>
    obtain ⟨m, hm, rfl, HO, HRr, HBr, hszr⟩ := hrel
    obtain ⟨va, vc, rfl⟩ := HO.out.shape
    rw [aboveK_length] at *
    by_cases hlt : m + 1 < ns.length
    · have hm1 : m + 1 ≤ maxLen := by unfold maxLen; omega
      have hm2 : (m + 1) * 16 ≤ 140737488355328 := by omega
      have hjt := join_take_le ns (m + 1)
      have hlt2 : (m : Int) + 1 < (ns.length : Int) := by omega
      have hcp : (m : Int) + 1 ≤ (nc : Int) := by omega
      have HO' := hide (show wr.ownsRow w1.heap.size 9 1 (.slice va m vc) m ((aboveK ns m).map vS) by have := HO.out; unfold OwnS at this; rwa [aboveK_length] at this)
      go_wp2_with (first | (go_at_call 152; refine (l3Join_any _ _ (ns.take (m + 1)) _ (HRr.out.take (m + 1)) (by simp; omega) (by omega) _ (by simp; omega)).mono ?_; rintro e w2 ⟨rfl, rfl⟩) | (at_builtin; refine wpList_append_one rfl (.tmp 16) (.tmp 21) 50 rfl w1.heap.size 9 i1 (.string ⟨#[]⟩) 1 16 Tryz.underlying50 ki kz0 kz1 kz2 rfl (by decide) _ _ _ rfl HO'.out rfl rfl (by intro u hu; simp at hu; subst hu; rfl) hm1 hm2 hszr ?_; intro v' w3 hown2 hkept; have O2 := hide hown2; have K2 := hide hkept; clear hown2 hkept))
      go_roundw
      case rel => exact ⟨m + 1, by omega, by go_num, hide (by rw [aboveK_succ]; exact OwnS.snoc (ps := aboveK ns m) (by rw [aboveK_length]; exact O2.out) rfl), hide (HRr.out.kept K2.out (fun _ x hx hS => by have h1 := (HPB.out x.block (by rw [hx]; rfl)).2; have h2 := (HO'.out.lt _ hS).1; omega)), hide (HBr.out.trans (K2.out.below (by omega) (fun b hb hS => by have := (HO'.out.lt _ hS).1; omega))), by have := K2.out.size; omega⟩
      case measure => simp [intOf]; omega
    · have hlt2 : ¬ (m : Int) + 1 < (ns.length : Int) := by omega
      have HE := hide (show aboveN ns = aboveK ns m by unfold aboveN aboveK; rw [show ns.length - 1 = m by omega])
      go_wp2_with fail
      go_ret
      exact ⟨_, rfl, by rw [HE.out]; exact HO.out.mono n1, HBr.out⟩

theorem faultP_pos {s : ByteArray} (h : faultP s.data.toList = 0) : 1 ≤ s.size := by
  obtain ⟨ns, _, _, _, e⟩ := faultP_zero h
  have := congrArg List.length e
  rw [← Lib.size_eq] at this
  simp at this
  omega
theorem above_bad {p : Bs} (h : faultP p ≠ 0) : above p = [] := by simp [above, h]
theorem above_good {p : Bs} (h : faultP p = 0) : above p = aboveN (cutB p.tail) := by simp [above, h]
theorem above_len (p : Bs) : (above p).length ≤ 2 := by
  by_cases h : faultP p = 0
  · obtain ⟨ns, hN, _, hc, _⟩ := faultP_zero h
    rw [above_good h, aboveN_length, hc]
    have := hN.2.2.2
    omega
  · rw [above_bad h]; simp



def parC (p : Bs) : Int := if faultP p = 0 then (if above p = [] then 4 else 0) else faultP p
def parT (p : Bs) : Bs := (above p).getLastD []
theorem getLast_at {l : List Bs} (h : l ≠ []) : l[l.length - 1]? = some (l.getLastD []) := by
  rw [List.getLastD_eq_getLast?, List.getLast?_eq_getElem?]
  have : l.length - 1 < l.length := by have := List.length_pos_iff.2 h; omega
  simp [this]
set_option maxRecDepth 100000 in
set_option maxHeartbeats 800000 in
theorem l3Parent_any (s : ByteArray) (w : World) (h1 : 1 ≤ s.size) (hs : s.size ≤ 2097152) :
    Calls Tryz.prog 170 #[.string s] w fun e w' => e = .returned (.string (str ((aboveN (cutB s.data.toList.tail)).getLastD []))) ∧ Below w.heap.size w w' := by
  have hlen : (aboveN (cutB s.data.toList.tail)).length ≤ 4194304 := by
    have hlen := aboveN_length (cutB s.data.toList.tail)
    have hcl := cutB_length s.data.toList.tail
    have hel2 : s.data.toList.tail.length ≤ s.size := by rw [List.length_tail, ← Lib.size_eq]; omega
    omega
  obtain ⟨ab, hab⟩ : ∃ ab, ab = aboveN (cutB s.data.toList.tail) := ⟨_, rfl⟩
  rw [← hab] at hlen ⊢
  have HAB := hide hab
  clear hab
  go_enter Tryz.func170, Tryz.ntmps170
  go_wp2_with fail
  refine (l3Above_any _ _ h1 hs).mono ?_
  rintro e w1 ⟨v, rfl, hO, hb1⟩
  rw [← HAB.out] at hO
  obtain ⟨va, vc, rfl⟩ := hO.shape
  have HB := hide hb1
  clear hb1
  by_cases h0 : ab = []
  · subst h0
    go_wp2_with fail
    go_ret
    exact ⟨rfl, HB.out⟩
  · have hp := List.length_pos_iff.2 h0
    obtain ⟨b, off, p, rfl, hb, hpe, hck⟩ := hO.reads.at (k := ab.length - 1) (by omega)
    have HP := hide (Option.some.inj (hpe.symm.trans (getLast_at h0)))
    clear hpe hO
    have hz : ((ab.length : Int) == 0) = false := by simp; omega
    have hp' : (1 : Int) ≤ (ab.length : Int) := by omega
    have hp2 : (ab.length : Int) ≤ 4194304 := by omega
    go_wp2_with fail
    go_ret
    exact ⟨ret_str (by rw [HP.out]), HB.out⟩

theorem par_bad {p : Bs} (h : faultP p ≠ 0) : parC p = faultP p ∧ parT p = [] := by simp [parC, parT, h, above_bad h]
theorem par_none {p : Bs} (h : faultP p = 0) (ha : aboveN (cutB p.tail) = []) : parC p = 4 ∧ parT p = [] := by
  have e := above_good h
  rw [ha] at e
  simp [parC, parT, h, e]
theorem par_good {p : Bs} (h : faultP p = 0) (ha : aboveN (cutB p.tail) ≠ []) : parC p = 0 ∧ parT p = (aboveN (cutB p.tail)).getLastD [] := by
  have e := above_good h
  exact ⟨by simp [parC, h, e, ha], by rw [parT, e]⟩



theorem belowB_short {s t : ByteArray} (h : ¬ t.size + 1 < s.size) : belowB s.data.toList t.data.toList = false := by
  simp [belowB, h]
theorem belowB_part {s t : ByteArray} (h : t.size + 1 < s.size) (h2 : ((s.extract 0 t.size).toList == t.toList) = false) : belowB s.data.toList t.data.toList = false := by
  rw [Lib.extract_toList, ByteArray.toList_eq, List.drop_zero, Nat.sub_zero] at h2
  simp only [belowB, ← Lib.size_eq, h2, Bool.and_false, Bool.false_and]
theorem belowB_whole {s t : ByteArray} (h : t.size + 1 < s.size) (h2 : ((s.extract 0 t.size).toList == t.toList) = true) : belowB s.data.toList t.data.toList = ((s[t.size].toNat : Int) == 47) := by
  rw [Lib.extract_toList, ByteArray.toList_eq, List.drop_zero, Nat.sub_zero] at h2
  have hl : t.size < s.data.toList.length := by rw [← Lib.size_eq]; omega
  have e : (s.data.toList.drop t.size).head? = some s[t.size] := by
    rw [List.head?_drop, List.getElem?_eq_getElem hl]; rfl
  simp only [belowB, ← Lib.size_eq, h2, h, e, decide_true, Bool.true_and]
  rw [Bool.eq_iff_iff]
  simp only [beq_iff_eq, Option.some.injEq]
  constructor
  · intro h; rw [h]; rfl
  · intro h; apply UInt8.toNat_inj.1; show _ = 47; omega

set_option maxRecDepth 100000 in
set_option maxHeartbeats 800000 in
theorem l3Below_any (s t : ByteArray) (w : World) (hs : s.size ≤ 2097152) (ht : t.size ≤ 2097152) :
    Calls Tryz.prog 203 #[.string s, .string t] w fun e w' => e = .returned (.bool (belowB s.data.toList t.data.toList)) ∧ w' = w := by
  by_cases h : t.size + 1 < s.size
  · have h' : (t.size : Int) + 1 < (s.size : Int) := by omega
    have h3 : (t.size : Int) ≤ (s.size : Int) := by omega
    have h4 : t.size < s.size := by omega
    cases h2 : ((s.extract 0 t.size).toList == t.toList)
    · have HE := hide (belowB_part h h2)
      go_enter Tryz.func203, Tryz.ntmps203
      go_wp2_with fail
      go_ret
      exact ⟨ret_bool HE.out.symm, rfl⟩
    · have HE := hide (belowB_whole h h2)
      go_enter Tryz.func203, Tryz.ntmps203
      go_wp2_with fail
      go_ret
      exact ⟨ret_bool HE.out.symm, rfl⟩
  · have h' : ¬ (t.size : Int) + 1 < (s.size : Int) := by omega
    have HE := hide (belowB_short h)
    go_enter Tryz.func203, Tryz.ntmps203
    go_wp2_with fail
    go_ret
    exact ⟨ret_bool HE.out.symm, rfl⟩

def isBelow (p t : Bs) : Bool := decide (t ∈ above p)
theorem isBelow_good {p t : Bs} (h : faultP p = 0) : isBelow p t = decide (faultP t = 0 ∧ belowB p t = true) := by
  simp only [isBelow, above_good h, above_iff h]


end Go.Proofs.YtejipahfodhmjaaGreat

namespace Go.Proofs.YtejipahfodhmjaaGreat
set_option linter.unusedVariables false

structure En where
  path : Bs
  kind : Int
  size : Int
  chunks : List Int
  deriving DecidableEq

def isDig (c : Int) : Bool := decide (0 ≤ c ∧ c ≤ 4294967295)
def formE (e : En) : Bool := decide ((1 ≤ e.kind ∧ e.kind ≤ 4) ∧ (e.kind = 1 ∨ (e.size = 0 ∧ e.chunks.length = 0)))
def sizeE (e : En) : Bool := decide (0 ≤ e.size ∧ e.size ≤ 24)
def manyE (e : En) : Bool := decide ((e.chunks.length : Int) = (e.size + 7) / 8)
def entFault (e : En) : Int :=
  if faultP e.path = 0 then (if formE e then (if sizeE e then (if manyE e then (if e.chunks.all isDig then 0 else 3) else 1) else 3) else 1) else faultP e.path
theorem entFault_path {e : En} (h : faultP e.path ≠ 0) : entFault e = faultP e.path := by simp [entFault, h]
theorem entFault_form {e : En} (h : faultP e.path = 0) (h1 : formE e = false) : entFault e = 1 := by simp [entFault, h, h1]
theorem entFault_size {e : En} (h : faultP e.path = 0) (h1 : formE e = true) (h2 : sizeE e = false) : entFault e = 3 := by simp [entFault, h, h1, h2]
theorem entFault_many {e : En} (h : faultP e.path = 0) (h1 : formE e = true) (h2 : sizeE e = true) (h3 : manyE e = false) : entFault e = 1 := by simp [entFault, h, h1, h2, h3]
theorem entFault_digs {e : En} (h : faultP e.path = 0) (h1 : formE e = true) (h2 : sizeE e = true) (h3 : manyE e = true) : entFault e = if e.chunks.all isDig then 0 else 3 := by simp [entFault, h, h1, h2, h3]

def dirK (k : Int) : Bool := decide (k = 2 ∨ k = 4)
def findE (es : List En) (p : Bs) : Option En := es.find? fun e => decide (e.path = p)
def parentP (p : Bs) : Bs := (aboveN (cutB p.tail)).getLastD []
def homeE (es : List En) (p : Bs) : Bool :=
  if parentP p = [] then true else
    match findE es (parentP p) with
    | none => false
    | some e => dirK e.kind
def lowE (prev : Option En) (e : En) : Bool :=
  match prev with
  | none => false
  | some q => Op.bytesLess e.path q.path || (e.path == q.path)
def entBad (es : List En) (prev : Option En) (e : En) : Int := if entFault e = 0 then (if lowE prev e then 1 else if homeE es e.path then 0 else 9) else entFault e
def layFrom (es : List En) : Option En → List En → Int
  | _, [] => 0
  | prev, e :: r => if entBad es prev e = 0 then layFrom es (some e) r else entBad es prev e
def layFault (es : List En) : Int := if 12 < es.length then 2 else layFrom es none es
def prevE (es : List En) (i : Nat) : Option En := if i = 0 then none else es[i - 1]?
theorem layFrom_step {es : List En} {i : Nat} {e : En} (h : es[i]? = some e) : layFrom es (prevE es i) (es.drop i) = if entBad es (prevE es i) e = 0 then layFrom es (prevE es (i + 1)) (es.drop (i + 1)) else entBad es (prevE es i) e := by
  obtain ⟨hi, he⟩ := List.getElem?_eq_some_iff.1 h
  have e1 : prevE es (i + 1) = some e := by simp [prevE, h]
  rw [e1, List.drop_eq_getElem_cons hi, he]
  rfl

end Go.Proofs.YtejipahfodhmjaaGreat

namespace Go.Proofs.YtejipahfodhmjaaGreat
open Go.RowKit
set_option linter.unusedVariables false

def RdE (w : World) (a : Option Addr) (es : List En) : Prop :=
  es ≠ [] → ∃ (b off : Nat) (A : Nat → Option Addr) (C : Nat → Nat), a = some ⟨b, off, none⟩ ∧ b < w.heap.size ∧ ∀ i e, es[i]? = some e →
    w.cell? ⟨b, off + i * 4, none⟩ = some (.string (str e.path)) ∧ w.cell? ⟨b, off + i * 4 + 1, none⟩ = some (.int .i64 e.kind) ∧ w.cell? ⟨b, off + i * 4 + 2, none⟩ = some (.int .i64 e.size) ∧
    w.cell? ⟨b, off + i * 4 + 3, none⟩ = some (.slice (A i) e.chunks.length (C i)) ∧ Reads .i64 w (A i) e.chunks
theorem RdE.kept {S : Nat → Prop} {w w' : World} {a : Option Addr} {es : List En} (h : RdE w a es) (hk : Below w.heap.size w w') : RdE w' a es := by
  intro hz
  obtain ⟨b, off, A, C, e, hb, hc⟩ := h hz
  refine ⟨b, off, A, C, e, Nat.lt_of_lt_of_le hb hk.size, fun i x hx => ?_⟩
  obtain ⟨c0, c1, c2, c3, r⟩ := hc i x hx
  exact ⟨(hk.cell (p := ⟨b, off + i * 4, none⟩) hb).trans c0, (hk.cell (p := ⟨b, off + i * 4 + 1, none⟩) hb).trans c1, (hk.cell (p := ⟨b, off + i * 4 + 2, none⟩) hb).trans c2, (hk.cell (p := ⟨b, off + i * 4 + 3, none⟩) hb).trans c3, r.below hk⟩
theorem RdE.below {w w' : World} {a : Option Addr} {es : List En} (h : RdE w a es) (hk : Below w.heap.size w w') : RdE w' a es := h.kept (S := fun _ => False) hk
theorem RdE.at {w : World} {a : Option Addr} {es : List En} (h : RdE w a es) {k : Nat} (hk : k < es.length) :
    ∃ b off e x c, a = some ⟨b, off, none⟩ ∧ b < w.heap.size ∧ es[k]? = some e ∧ w.cell? ⟨b, off + k * 4, none⟩ = some (.string (str e.path)) ∧ w.cell? ⟨b, off + k * 4 + 1, none⟩ = some (.int .i64 e.kind) ∧ w.cell? ⟨b, off + k * 4 + 2, none⟩ = some (.int .i64 e.size) ∧
      w.cell? ⟨b, off + k * 4 + 3, none⟩ = some (.slice x e.chunks.length c) ∧ Reads .i64 w x e.chunks := by
  obtain ⟨b, off, A, C, e, hb, hc⟩ := h (by intro e; simp [e] at hk)
  have hx : es[k]? = some es[k] := List.getElem?_eq_getElem hk
  obtain ⟨c0, c1, c2, c3, r⟩ := hc k _ hx
  exact ⟨b, off, es[k], A k, C k, e, hb, hx, c0, c1, c2, c3, r⟩
def SmallE (es : List En) : Prop := ∀ e ∈ es, e.path.length ≤ 1048576 ∧ e.chunks.length ≤ 1048576

theorem l1In_yes (n a b : Int) (w : World) (h0 : a ≤ n) (h1 : n ≤ b) :
    Calls Tryz.prog 168 #[.int .i64 n, .int .i64 a, .int .i64 b] w fun e w' => e = .returned (.bool true) ∧ w' = w := by
  go_enter Tryz.func168, Tryz.ntmps168
  go_wp2
  go_ret
  exact ⟨rfl, rfl⟩
theorem l1In_no (n a b : Int) (w : World) (h : n < a ∨ b < n) :
    Calls Tryz.prog 168 #[.int .i64 n, .int .i64 a, .int .i64 b] w fun e w' => e = .returned (.bool false) ∧ w' = w := by
  by_cases h0 : a ≤ n
  · have h1 : ¬ n ≤ b := by omega
    go_enter Tryz.func168, Tryz.ntmps168
    go_wp2
    go_ret
    exact ⟨rfl, rfl⟩
  · go_enter Tryz.func168, Tryz.ntmps168
    go_wp2
    go_ret
    exact ⟨rfl, rfl⟩

theorem l1Digest_any (n : Int) (w : World) : Calls Tryz.prog 154 #[.int .i64 n] w fun e w' => e = .returned (.bool (isDig n)) ∧ w' = w := by
  by_cases h : 0 ≤ n ∧ n ≤ 4294967295
  · have e : isDig n = true := decide_eq_true h
    rw [e]
    obtain ⟨h0, h1⟩ := h
    go_enter Tryz.func154, Tryz.ntmps154
    go_wp2_with (go_at_call 168; refine (l1In_yes _ _ _ _ h0 h1).mono ?_; rintro e w' ⟨rfl, rfl⟩)
    go_ret
    exact ⟨rfl, rfl⟩
  · have e : isDig n = false := decide_eq_false h
    rw [e]
    go_enter Tryz.func154, Tryz.ntmps154
    go_wp2_with (go_at_call 168; refine (l1In_no _ _ _ _ (by omega)).mono ?_; rintro e w' ⟨rfl, rfl⟩)
    go_ret
    exact ⟨rfl, rfl⟩

end Go.Proofs.YtejipahfodhmjaaGreat

namespace Go.Proofs.YtejipahfodhmjaaGreat
open Go.RowKit
set_option linter.unusedVariables false

def Four (w : World) (b : Nat) (u0 u1 u2 u3 : Value) : Prop := w.cell? ⟨b, 0, none⟩ = some u0 ∧ w.cell? ⟨b, 1, none⟩ = some u1 ∧ w.cell? ⟨b, 2, none⟩ = some u2 ∧ w.cell? ⟨b, 3, none⟩ = some u3
theorem Four.new (w : World) (u0 u1 u2 u3 : Value) (t : TypeId) : Four (w.alloc (.cells #[u0, u1, u2, u3] t)) w.heap.size u0 u1 u2 u3 := ⟨by simp, by simp, by simp, by simp⟩
theorem Four.lt {w : World} {b : Nat} {u0 u1 u2 u3 : Value} (h : Four w b u0 u1 u2 u3) : b < w.heap.size := World.block_lt_of_cell? w ⟨b, 0, none⟩ h.1
theorem Four.below {w w' : World} {b : Nat} {u0 u1 u2 u3 : Value} (h : Four w b u0 u1 u2 u3) (hk : Below w.heap.size w w') : Four w' b u0 u1 u2 u3 :=
  ⟨(hk.cell (p := ⟨b, 0, none⟩) h.lt).trans h.1, (hk.cell (p := ⟨b, 1, none⟩) h.lt).trans h.2.1, (hk.cell (p := ⟨b, 2, none⟩) h.lt).trans h.2.2.1, (hk.cell (p := ⟨b, 3, none⟩) h.lt).trans h.2.2.2⟩

theorem l4For_any (n : Int) (w : World) (h0 : 0 ≤ n) (h1 : n ≤ 24) : Calls Tryz.prog 169 #[.int .i64 n] w fun e w' => e = .returned (.int .i64 ((n + 7) / 8)) ∧ w' = w := by
  have e : (n + 7) / 8 = (n + 8 - 1).tdiv 8 := by rw [Int.tdiv_eq_ediv_of_nonneg (by omega)]; congr 1; omega
  rw [e]
  go_enter Tryz.func169, Tryz.ntmps169
  go_wp2
  go_ret
  exact ⟨rfl, rfl⟩

set_option maxRecDepth 100000 in
set_option maxHeartbeats 1600000 in
theorem specEntryFault_any (e : En) (x : Option Addr) (c n : Nat) (w : World) (h : Reads .i64 w x e.chunks) (hn : n = e.chunks.length) (hp : e.path.length ≤ 1048576) (hc : e.chunks.length ≤ 1048576) :
    Calls Tryz.prog 143 #[.agg #[.string (str e.path), .int .i64 e.kind, .int .i64 e.size, .slice x n c]] w fun r w' => r = .returned (.int .i64 (entFault e)) ∧ Below w.heap.size w w' := by
  subst hn
  have HR := hide h
  clear h
  have HN := hide (below_alloc w (.cells #[.string (str e.path), .int .i64 e.kind, .int .i64 e.size, .slice x e.chunks.length c] 40))
  have HB := hide (Four.new w (.string (str e.path)) (.int .i64 e.kind) (.int .i64 e.size) (.slice x e.chunks.length c) 40)
  by_cases hf : faultP e.path = 0
  · go_enter Tryz.func143, Tryz.ntmps143
    go_wp2_with fail
    refine (l3Fault_any _ _ (by rw [str_size]; omega)).mono ?_
    rintro r w1 ⟨rfl, hb1⟩
    rw [str_data, hf]
    have HB1 := hide (below_next HN.out hb1)
    have HR1 := hide (HR.out.below HB1.out)
    have hB := HB.out.below hb1
    clear HB HR HN hb1
    obtain ⟨c0, c1, c2, c3⟩ := hB
    generalize w.heap.size = bk at c0 c1 c2 c3 ⊢
    by_cases hk : 1 ≤ e.kind ∧ e.kind ≤ 4
    · by_cases hk1 : e.kind = 1
      · have hfm : formE e = true := decide_eq_true ⟨hk, Or.inl hk1⟩
        have hkn : (e.kind != 1) = false := by simp [hk1]
        have HK := hide hk1
        clear hk1
        have HI := hide (l1In_yes e.kind 1 4 w1 hk.1 hk.2)
        by_cases hz : 0 ≤ e.size ∧ e.size ≤ 24
        · have HZ := hide (l1In_yes e.size 0 24 w1 hz.1 hz.2)
          have HFo := hide (fun u => l4For_any e.size u hz.1 hz.2)
          by_cases hm : (e.chunks.length : Int) = (e.size + 7) / 8
          · have HE := hide (entFault_digs hf hfm (decide_eq_true hz) (decide_eq_true hm))
            have hmn : ((e.chunks.length : Int) != (e.size + 7) / 8) = false := by simp; exact hm
            clear hfm hf hm
            go_wp2_with fail
            refine HI.out.mono ?_
            rintro r w' ⟨rfl, rfl⟩
            go_wp2_with fail
            refine HZ.out.mono ?_
            rintro r w' ⟨rfl, rfl⟩
            go_wp2_with fail
            go_region_held3 (fun w' => w'.cell? ⟨bk, 2, none⟩ = some (.int .i64 e.size) ∧ w'.cell? ⟨bk, 3, none⟩ = some (.slice x e.chunks.length c)) (first | trivial | go_keep)
              ((first
                | (go_at_call 169; refine (HFo.out _).mono ?_; rintro r w' ⟨rfl, rfl⟩)))
            go_wp2_with fail
            clear hmn
            have d3 : w'.drew.cell? ⟨bk, 3, none⟩ = some (.slice x e.chunks.length c) := c3
            have HR2 := hide (HR1.out.below (Below.refl w'.heap.size w').drew)
            have HB2 := hide HB1.out.drew
            clear c0 c1 c2 c3 HR1 HB1 HI HZ
            generalize w'.drew = W at *
            go_loop [4] (fun i => ∃ k : Nat, k ≤ e.chunks.length ∧ i = .int .i64 k ∧ Hid ((e.chunks.take k).all isDig = true)) (fun i => e.chunks.length - (intOf i).toNat)
            case atStart => exact ⟨0, Nat.zero_le _, rfl, hide (by simp)⟩
            case round =>
              obtain ⟨k, hk, rfl, HA⟩ := hrel
              by_cases hlt : k < e.chunks.length
              · obtain ⟨b, off, rfl, hb1, hcc⟩ := HR2.out (by intro e; simp [e] at hlt)
                have hc1 := hcc k hlt
                have hzk : e.chunks[k]? = some (e.chunks.getD k 0) := by rw [List.getD_eq_getElem?_getD, List.getElem?_eq_getElem hlt]; rfl
                generalize e.chunks.getD k 0 = z at hc1 hzk
                have HZ := hide hzk
                clear hcc hzk
                cases hd : isDig z
                · have HX := hide (show e.chunks.all isDig = false from by rw [List.all_eq_false]; exact ⟨z, List.mem_of_getElem? HZ.out, by simp [hd]⟩)
                  have HD := hide hd
                  clear hd
                  go_wp2_with fail
                  refine (l1Digest_any _ _).mono ?_
                  rintro r w'' ⟨rfl, rfl⟩
                  rw [HD.out]
                  go_wp2_with fail
                  go_ret
                  exact ⟨ret_int (by rw [HE.out, HX.out]; rfl), HB2.out⟩
                · have HX := hide (show (e.chunks.take (k + 1)).all isDig = true from by rw [take_snoc_at HZ.out]; simp [HA.out, hd])
                  have HD := hide hd
                  clear hd
                  go_wp2_with fail
                  refine (l1Digest_any _ _).mono ?_
                  rintro r w'' ⟨rfl, rfl⟩
                  rw [HD.out]
                  go_wp2_with fail
                  go_round
                  case rel => exact ⟨k + 1, by omega, by go_num, HX⟩
                  case measure => simp [intOf]; omega
              · have HX := hide (show e.chunks.all isDig = true from by have := HA.out; rwa [List.take_of_length_le (by omega)] at this)
                go_wp2_with fail
                go_ret
                exact ⟨ret_int (by rw [HE.out, HX.out]; rfl), HB2.out⟩
          · have HE := hide (entFault_many hf hfm (decide_eq_true hz) (decide_eq_false hm))
            have hmn : ((e.chunks.length : Int) != (e.size + 7) / 8) = true := by simp; exact hm
            clear hfm hf hm
            go_wp2_with fail
            refine HI.out.mono ?_
            rintro r w' ⟨rfl, rfl⟩
            go_wp2_with fail
            refine HZ.out.mono ?_
            rintro r w' ⟨rfl, rfl⟩
            go_wp2_with fail
            go_region_held3 (fun w' => w'.cell? ⟨bk, 2, none⟩ = some (.int .i64 e.size) ∧ w'.cell? ⟨bk, 3, none⟩ = some (.slice x e.chunks.length c)) (first | trivial | go_keep)
              ((first
                | (go_at_call 169; refine (HFo.out _).mono ?_; rintro r w' ⟨rfl, rfl⟩)))
            go_wp2_with fail
            go_ret
            exact ⟨ret_int HE.out.symm, HB1.out.drew⟩
        · have HZ := hide (l1In_no e.size 0 24 w1 (by omega))
          have HE := hide (entFault_size hf hfm (decide_eq_false hz))
          clear hfm hf
          go_wp2_with fail
          refine HI.out.mono ?_
          rintro r w' ⟨rfl, rfl⟩
          go_wp2_with fail
          refine HZ.out.mono ?_
          rintro r w' ⟨rfl, rfl⟩
          go_wp2_with fail
          go_ret
          exact ⟨ret_int HE.out.symm, HB1.out⟩
      · have hkn : (e.kind != 1) = true := by simp; exact hk1
        have HI := hide (l1In_yes e.kind 1 4 w1 hk.1 hk.2)
        by_cases hz : e.size = 0
        · have hzn : (e.size != 0) = false := by simp; exact hz
          by_cases hl : e.chunks.length = 0
          · have HE := hide (show entFault e = 0 from by
              have e0 : e.chunks = [] := List.length_eq_zero_iff.1 hl
              rw [entFault_digs hf (decide_eq_true ⟨hk, Or.inr ⟨hz, hl⟩⟩) (decide_eq_true (by omega)) (decide_eq_true (by rw [hl, hz]; rfl)), e0]; rfl)
            have hl0 : ¬ (0 : Int) < (e.chunks.length : Int) := by omega
            have HZ := hide (l1In_yes e.size 0 24 w1 (by omega) (by omega))
            have HFo := hide (fun u => l4For_any e.size u (by omega) (by omega))
            have hmn : ((e.chunks.length : Int) != (e.size + 7) / 8) = false := by rw [hl, hz]; rfl
            clear hf hl hz hk1
            go_wp2_with fail
            refine HI.out.mono ?_
            rintro r w' ⟨rfl, rfl⟩
            go_wp2_with fail
            refine HZ.out.mono ?_
            rintro r w' ⟨rfl, rfl⟩
            go_wp2_with fail
            go_region_held3 (fun w' => w'.cell? ⟨bk, 2, none⟩ = some (.int .i64 e.size) ∧ w'.cell? ⟨bk, 3, none⟩ = some (.slice x e.chunks.length c)) (first | trivial | go_keep)
              ((first
                | (go_at_call 169; refine (HFo.out _).mono ?_; rintro r w' ⟨rfl, rfl⟩)))
            go_wp2_with fail
            have d3 : w'.drew.cell? ⟨bk, 3, none⟩ = some (.slice x e.chunks.length c) := c3
            have HB2 := hide HB1.out.drew
            clear c0 c1 c2 c3 HR1 HB1 HI HZ hmn
            generalize w'.drew = W at *
            go_rounds 1
            go_ret
            exact ⟨ret_int HE.out.symm, HB2.out⟩
          · have HE := hide (entFault_form hf (decide_eq_false (fun h => h.2.elim hk1 (fun h => hl h.2))))
            have hl0 : (0 : Int) < (e.chunks.length : Int) := by omega
            clear hf hl hz hk1
            go_wp2_with fail
            refine HI.out.mono ?_
            rintro r w' ⟨rfl, rfl⟩
            go_wp2_with fail
            go_ret
            exact ⟨ret_int HE.out.symm, HB1.out⟩
        · have HE := hide (entFault_form hf (decide_eq_false (fun h => h.2.elim hk1 (fun h => hz h.1))))
          have hzn : (e.size != 0) = true := by simp; exact hz
          clear hf hz hk1
          go_wp2_with fail
          refine HI.out.mono ?_
          rintro r w' ⟨rfl, rfl⟩
          go_wp2_with fail
          go_ret
          exact ⟨ret_int HE.out.symm, HB1.out⟩
    · have HE := hide (entFault_form hf (decide_eq_false (fun h => hk h.1)))
      have HI := hide (l1In_no e.kind 1 4 w1 (by omega))
      clear hf
      go_wp2_with fail
      refine HI.out.mono ?_
      rintro r w' ⟨rfl, rfl⟩
      go_wp2_with fail
      go_ret
      exact ⟨ret_int HE.out.symm, HB1.out⟩
  · rw [entFault_path hf]
    go_enter Tryz.func143, Tryz.ntmps143
    go_wp2_with fail
    refine (l3Fault_any _ _ (by rw [str_size]; omega)).mono ?_
    rintro r w1 ⟨rfl, hb1⟩
    rw [str_data]
    have HB1 := hide (below_next HN.out hb1)
    clear hb1 HN HB HR
    go_wp2_with fail
    go_ret
    exact ⟨rfl, HB1.out⟩
end Go.Proofs.YtejipahfodhmjaaGreat

