/-
  Contracts of the model's draws: a source of choices over the bytes of a code.
-/
import Derived.Test.YtjkmbicedbdifaaGreatJ1
namespace Go.Proofs.YtjkmbicedbdifaaGreat
open Go.RowKit
set_option linter.unusedVariables false

/-- Block p is a source over the bytes zs, t of which have been read. -/
def Src (w : World) (p : Nat) (zs : List Int) (t : Int) : Prop :=
  ∃ a c, w.cell? ⟨p, 0, none⟩ = some (.slice a zs.length c) ∧ w.cell? ⟨p, 1, none⟩ = some (.int .i64 t) ∧ w.frozen? ⟨p, 1, none⟩ = false ∧ Reads .u8 w a zs ∧ (zs ≠ [] → ∀ x, a = some x → x.block < p)

theorem Src.step {w : World} {p : Nat} {zs : List Int} {t : Int} (h : Src w p zs t) (s : Int) : Src (w.setCell ⟨p, 1, none⟩ (.int .i64 s)) p zs s ∧ Kept (fun b => b = p) w (w.setCell ⟨p, 1, none⟩ (.int .i64 s)) := by
  obtain ⟨a, c, q0, q1, q2, hr, hap⟩ := h
  have hk : Kept (fun b => b = p) w (w.setCell ⟨p, 1, none⟩ (.int .i64 s)) := Kept.setCell (S := fun b => b = p) (p := ⟨p, 1, none⟩) (Kept.refl _ w) (fun _ => rfl) _
  refine ⟨⟨a, c, ?_, cell_set_same q1, by rw [World.frozen?_setCell]; exact q2, hr.kept hk (fun hz x hx e => by have := hap hz x hx; omega), hap⟩, hk⟩
  rw [cell_set_other (by intro e; have := congrArg Addr.off e; simp at this)]; exact q0

theorem Src.drewN {w : World} {p : Nat} {zs : List Int} {t : Int} (h : Src w p zs t) (n : Nat) : Src (w.drewN n) p zs t := h

theorem Src.kept {S : Nat → Prop} {w w' : World} {p : Nat} {zs : List Int} {t : Int} (h : Src w p zs t) (hk : Kept S w w') (hS : ∀ b, b ≤ p → ¬ S b) : Src w' p zs t := by
  obtain ⟨a, c, q0, q1, q2, hr, hap⟩ := h
  have hlt := World.block_lt_of_cell? w ⟨p, 0, none⟩ q0
  have hp := hS p (Nat.le_refl _)
  exact ⟨a, c, (hk.cell (p := ⟨p, 0, none⟩) hlt hp).trans q0, (hk.cell (p := ⟨p, 1, none⟩) hlt hp).trans q1, (hk.frozen (p := ⟨p, 1, none⟩) hlt hp).trans q2, hr.kept hk (fun hz x hx => hS _ (Nat.le_of_lt (hap hz x hx))), hap⟩

theorem Src.below {w w' : World} {p : Nat} {zs : List Int} {t : Int} (h : Src w p zs t) (hk : Below w.heap.size w w') : Src w' p zs t :=
  Src.kept (S := fun _ => False) h (Kept.of_below hk) (fun _ _ => id)
theorem Src.lt {w : World} {p : Nat} {zs : List Int} {t : Int} (h : Src w p zs t) : p < w.heap.size := by
  obtain ⟨a, c, q0, _⟩ := h
  exact World.block_lt_of_cell? w ⟨p, 0, none⟩ q0

theorem rem_bd (v n : Int) (hn : 1 ≤ n) : 0 ≤ v % n ∧ v % n < n := ⟨Int.emod_nonneg _ (by omega), Int.emod_lt_of_pos _ (by omega)⟩
theorem mod_bd (t : Int) (k : Nat) (hk : 0 < k) : 0 ≤ t % (k : Int) ∧ t % (k : Int) < (k : Int) := ⟨Int.emod_nonneg _ (by omega), Int.emod_lt_of_pos _ (by omega)⟩
theorem div_bd (t : Int) (k : Nat) (h0 : 0 ≤ t) : 0 ≤ t / (k : Int) ∧ t / (k : Int) ≤ t := ⟨Int.ediv_nonneg h0 (by omega), Int.ediv_le_self _ h0⟩

set_option maxHeartbeats 1600000 in
theorem l1Next_big (p : Nat) (zs : List Int) (t n : Int) (w : World) (h : Src w p zs t) (hu : U8 zs) (ht0 : 0 ≤ t) (ht1 : t ≤ 1099511627776) (hn0 : 1 ≤ n) (hn1 : n ≤ 2147483648) (hl : zs.length ≤ 2097152) :
    Calls Tryz.prog 58 #[.pointer (some ⟨p, 0, none⟩), .int .i64 n] w fun e w' => ∃ r, e = .returned (.int .i64 r) ∧ 0 ≤ r ∧ r < n ∧ Src w' p zs (t + 1) ∧ Kept (fun b => b = p) w w' := by
  have HS := hide (h.step (t + 1))
  obtain ⟨a, c, q0, q1, q2, hr, hap⟩ := h
  by_cases hz : zs = []
  · have hn : zs.length = 0 := by rw [hz]; rfl
    rw [hn] at q0
    have hmod : 0 ≤ t * 7 % n ∧ t * 7 % n < n := ⟨Int.emod_nonneg _ (by omega), Int.emod_lt_of_pos _ (by omega)⟩
    have HM := hide hmod
    clear hmod hr hap hz hn
    go_enter Tryz.func58, Tryz.ntmps58
    go_wp2
    go_ret
    exact ⟨_, rfl, HM.out.1, HM.out.2, HS.out.1, HS.out.2⟩
  · obtain ⟨b, off, rfl, hb, hc⟩ := hr hz
    have hlen : 0 < zs.length := List.length_pos_iff.2 hz
    have hne : ((zs.length : Int) == 0) = false := by simp; omega
    have hbp : b ≠ p := by have := hap hz _ rfl; simp at this; omega
    obtain ⟨m0, m1⟩ := mod_bd t zs.length hlen
    obtain ⟨m2, m3⟩ := mod_bd (t + 1) zs.length hlen
    obtain ⟨d0, d1⟩ := div_bd t zs.length ht0
    have hz1 := hu.get (t % (zs.length : Int)).toNat
    have hz2 := hu.get ((t + 1) % (zs.length : Int)).toNat
    have c1 := hc (t % (zs.length : Int)).toNat (by omega)
    have c2 := hc ((t + 1) % (zs.length : Int)).toNat (by omega)
    generalize zs.getD (t % (zs.length : Int)).toNat 0 = z1 at hz1 c1
    generalize zs.getD ((t + 1) % (zs.length : Int)).toNat 0 = z2 at hz2 c2
    generalize hW : w.setCell ⟨p, 1, none⟩ (.int .i64 (t + 1)) = W at HS
    have k0 : W.cell? ⟨p, 0, none⟩ = some (.slice (some ⟨b, off, none⟩) zs.length c) := by rw [← hW, cell_set_other (by intro e; have := congrArg Addr.off e; simp at this)]; exact q0
    have k1 : W.cell? ⟨p, 1, none⟩ = some (.int .i64 (t + 1)) := by rw [← hW]; exact cell_set_same q1
    have k2 : W.cell? ⟨b, off + (t % (zs.length : Int)).toNat, none⟩ = some (.int .u8 z1) := by rw [← hW]; exact cell_set_far (fun e => hbp e.symm) c1
    have k3 : W.cell? ⟨b, off + ((t + 1) % (zs.length : Int)).toNat, none⟩ = some (.int .u8 z2) := by rw [← hW]; exact cell_set_far (fun e => hbp e.symm) c2
    have HW := hide hW
    clear hW c1 c2 hc hr hap hz
    by_cases h200 : 200 < n
    · go_enter Tryz.func58, Tryz.ntmps58
      go_wp2
      rw [HW.out]
      go_quiet (fail)
      go_wp2
      go_quiet (fail)
      go_wp2
      go_ret
      exact ⟨_, rfl, (rem_bd _ n hn0).1, (rem_bd _ n hn0).2, HS.out.1.drewN _, HS.out.2.drewN _⟩
    · go_enter Tryz.func58, Tryz.ntmps58
      go_wp2
      rw [HW.out]
      go_quiet (fail)
      go_wp2
      go_ret
      exact ⟨_, rfl, (rem_bd _ n hn0).1, (rem_bd _ n hn0).2, HS.out.1.drewN _, HS.out.2.drewN _⟩
theorem l1Next_any (p : Nat) (zs : List Int) (t n : Int) (w : World) (h : Src w p zs t) (hu : U8 zs) (ht0 : 0 ≤ t) (ht1 : t ≤ 1099511627776) (hn0 : 1 ≤ n) (hn1 : n ≤ 2147483648) (hl : zs.length ≤ 1048576) :
    Calls Tryz.prog 58 #[.pointer (some ⟨p, 0, none⟩), .int .i64 n] w fun e w' => ∃ r, e = .returned (.int .i64 r) ∧ 0 ≤ r ∧ r < n ∧ Src w' p zs (t + 1) ∧ Kept (fun b => b = p) w w' :=
  l1Next_big p zs t n w h hu ht0 ht1 hn0 hn1 (by omega)

set_option maxHeartbeats 400000 in
theorem l1Source_any (a : Option Addr) (cap : Nat) (zs : List Int) (w : World) (h : Reads .u8 w a zs) :
    Calls Tryz.prog 23 #[.slice a zs.length cap] w fun e w' => e = .returned (.pointer (some ⟨w.heap.size, 0, none⟩)) ∧ Src w' w.heap.size zs 0 ∧ w'.heap.size = w.heap.size + 1 ∧ Below w.heap.size w w' := by
  have HR := hide h
  clear h
  go_enter Tryz.func23, Tryz.ntmps23
  go_wp2
  go_ret
  refine ⟨rfl, ⟨a, cap, by simp, by simp, by simp, HR.out.below (below_alloc _ _), fun hz x hx => ?_⟩, by simp, below_alloc _ _⟩
  obtain ⟨b, off, rfl, hb, _⟩ := HR.out hz
  simp at hx
  subst hx
  exact hb

set_option maxHeartbeats 800000 in
theorem l1Pick_big (p g c m : Nat) (vs : List Int) (zs : List Int) (t : Int) (w : World) (h : Src w p zs t) (hu : U8 zs) (ht0 : 0 ≤ t) (ht1 : t ≤ 1099511627776) (hl : zs.length ≤ 2097152)
    (hm0 : 0 < m) (hm1 : m ≤ 1000) (hm : m = vs.length) (hg : g ≠ p) (hgl : g < w.heap.size) (hc : ∀ i, i < m → w.cell? ⟨g, i, none⟩ = some (.int .i64 (vs.getD i 0))) :
    Calls Tryz.prog 56 #[.pointer (some ⟨p, 0, none⟩), .slice (some ⟨g, 0, none⟩) m c] w fun e w' => ∃ v, v ∈ vs ∧ e = .returned (.int .i64 v) ∧ Src w' p zs (t + 1) ∧ Kept (fun b => b = p) w w' := by
  have HS := hide h
  have HU := hide hu
  have HC := hide hc
  have HM := hide hm
  clear h hu hc hm
  go_enter Tryz.func56, Tryz.ntmps56
  go_wp2_with fail
  refine (l1Next_big p zs t _ _ HS.out HU.out ht0 ht1 (by omega) (by omega) hl).mono ?_
  rintro e w1 ⟨r, rfl, r0, r1, s1, k1⟩
  obtain ⟨j, rfl⟩ := Int.eq_ofNat_of_zero_le r0
  have hj : j < m := by omega
  have hcj := HC.out j hj
  have hmem : vs.getD j 0 ∈ vs := by
    have hj2 : j < vs.length := by have := HM.out; omega
    have e : vs.getD j 0 = vs[j] := by simp [List.getD_eq_getElem?_getD, hj2]
    rw [e]; exact List.getElem_mem hj2
  generalize vs.getD j 0 = v at hcj hmem
  have hc1 : w1.cell? ⟨g, j, none⟩ = some (.int .i64 v) := (k1.cell (p := ⟨g, j, none⟩) hgl hg).trans hcj
  have S1 := hide s1
  have K1 := hide k1
  have M1 := hide hmem
  clear s1 k1 hcj hmem
  go_wp2_with fail
  go_ret
  exact ⟨v, M1.out, rfl, S1.out, K1.out⟩
theorem l1Pick_any (p g c m : Nat) (vs : List Int) (zs : List Int) (t : Int) (w : World) (h : Src w p zs t) (hu : U8 zs) (ht0 : 0 ≤ t) (ht1 : t ≤ 1099511627776) (hl : zs.length ≤ 1048576)
    (hm0 : 0 < m) (hm1 : m ≤ 1000) (hm : m = vs.length) (hg : g ≠ p) (hgl : g < w.heap.size) (hc : ∀ i, i < m → w.cell? ⟨g, i, none⟩ = some (.int .i64 (vs.getD i 0))) :
    Calls Tryz.prog 56 #[.pointer (some ⟨p, 0, none⟩), .slice (some ⟨g, 0, none⟩) m c] w fun e w' => ∃ v, v ∈ vs ∧ e = .returned (.int .i64 v) ∧ Src w' p zs (t + 1) ∧ Kept (fun b => b = p) w w' :=
  l1Pick_big p g c m vs zs t w h hu ht0 ht1 (by omega) hm0 hm1 hm hg hgl hc

set_option maxHeartbeats 800000 in
theorem l1Some_big (p : Nat) (n : Nat) (zs : List Int) (t : Int) (w : World) (h : Src w p zs t) (hu : U8 zs) (ht0 : 0 ≤ t) (ht1 : t ≤ 549755813888) (hl : zs.length ≤ 2097152) (hn : n ≤ 1048576) (hp : p < w.heap.size) :
    Calls Tryz.prog 128 #[.pointer (some ⟨p, 0, none⟩), .int .i64 n] w fun e w' => ∃ a c ds, e = .returned (.slice a n c) ∧ ds.length = n ∧ U8 ds ∧ w'.ownsRow w.heap.size 5 1 (.slice a n c) n (ds.map (Value.int .u8)) ∧ Src w' p zs (t + n) ∧ Kept (fun b => b = p) w w' := by
  obtain ⟨i0, hi, hz0, hz1, hz2⟩ := info_parts Tryz.infoU8
  have HS := hide (h.below (below_alloc w (.cells #[] 5)))
  have HU := hide hu
  clear h hu
  go_enter Tryz.func128, Tryz.ntmps128
  go_wp2
  go_loopw [1, 5] (fun q v wr => ∃ j : Nat, ∃ ds : List Int, j ≤ n ∧ q = .int .i64 ((n : Int) - j) ∧ ds.length = j ∧ U8 ds ∧ wr.ownsRow w.heap.size 5 1 v j (ds.map (Value.int .u8)) ∧ Src wr p zs (t + j) ∧ Kept (fun b => b = p) w wr) (fun q _ _ => (intOf q).toNat)
  case atStart => exact ⟨0, [], Nat.zero_le _, by simp, rfl, fun z hz => by simp at hz, World.ownsRow_made w #[] 0 (Nat.le_refl _) (Nat.zero_le _) rfl, by simpa using HS.out, (Kept.refl _ _).alloc _⟩
  case round =>
    obtain ⟨j, ds, hj, rfl, hds, hU, hown, hsrc, hkept⟩ := hrel
    by_cases hlt : j < n
    · have hgt : (0 : Int) < (n : Int) - j := by omega
      have hsz := hkept.size
      have hm1 : j + 1 ≤ maxLen := by unfold maxLen; omega
      have hm2 : (j + 1) * 1 ≤ 140737488355328 := by omega
      have H1 := hide hds
      have H2 := hide hU
      have H3 := hide hown
      have H4 := hide hsrc
      have H5 := hide hkept
      clear hds hU hown hsrc hkept
      go_wp2_with (first | (go_at_call 58; refine (l1Next_big p zs _ _ _ H4.out HU.out (by omega) (by omega) (by omega) (by omega) hl).mono ?_; rintro e w1 ⟨r, rfl, r0, r1, s1, k1⟩; have S1 := hide s1; have K1 := hide k1; have O1 := hide (ownsRow_kept H3.out k1 (fun b hb e => by have := (H3.out.lt b hb).1; omega)); have hsz1 : w.heap.size ≤ w1.heap.size := Nat.le_trans hsz k1.size; clear s1 k1) | (at_builtin; refine wpList_append_one rfl (.tmp 11) (.tmp 16) 22 rfl w.heap.size 5 i0 (.int .u8 0) 1 1 Tryz.underlying22 hi hz0 hz1 hz2 rfl (by decide) _ _ _ rfl O1.out rfl rfl (by intro u hu; simp at hu; subst hu; rfl) hm1 hm2 hsz1 ?_; intro v' w2 hown2 hkept2; have O2 := hide hown2; have K2 := hide hkept2; clear hown2 hkept2))
      have hp1 : ∀ b, b ≤ p → ¬ (u5.ownBlock = some b) := fun b hb e => by have := (H3.out.lt b e).1; omega
      go_roundw
      case rel =>
        refine ⟨j + 1, ds ++ [97 + r], by omega, by go_num, by simp [H1.out], fun z hz => ?_, by simpa using O2.out, ?_, ?_⟩
        · rcases List.mem_append.1 hz with hz | hz
          · exact H2.out z hz
          · simp at hz; omega
        · have := S1.out.kept K2.out hp1
          rwa [show t + (j : Int) + 1 = t + ((j + 1 : Nat) : Int) from by omega] at this
        · exact (H5.out.trans K1.out).trans_own K2.out (fun b hb e => by have := (O1.out.lt b e).1; omega)
      case measure => simp [intOf]; omega
    · have hje : j = n := by omega
      subst hje
      obtain ⟨av, cv, rfl⟩ := ownsRow_shape hown
      have hz : ¬ (0 : Int) < (j : Int) - j := by omega
      go_wp2
      go_ret
      exact ⟨av, cv, rfl, ds, hds, hU, hown, hsrc, hkept⟩
theorem l1Some_any (p : Nat) (n : Nat) (zs : List Int) (t : Int) (w : World) (h : Src w p zs t) (hu : U8 zs) (ht0 : 0 ≤ t) (ht1 : t ≤ 549755813888) (hl : zs.length ≤ 1048576) (hn : n ≤ 1048576) (hp : p < w.heap.size) :
    Calls Tryz.prog 128 #[.pointer (some ⟨p, 0, none⟩), .int .i64 n] w fun e w' => ∃ a c ds, e = .returned (.slice a n c) ∧ ds.length = n ∧ U8 ds ∧ w'.ownsRow w.heap.size 5 1 (.slice a n c) n (ds.map (Value.int .u8)) ∧ Src w' p zs (t + n) ∧ Kept (fun b => b = p) w w' :=
  l1Some_big p n zs t w h hu ht0 ht1 (by omega) hn hp


theorem cells4 (w : World) (a b c d : Int) (t : TypeId) : ∀ i, i < 4 → (w.alloc (.cells #[.int .i64 a, .int .i64 b, .int .i64 c, .int .i64 d] t)).cell? ⟨w.heap.size, i, none⟩ = some (.int .i64 ([a, b, c, d].getD i 0)) := by
  intro i hi
  match i, hi with
  | 0, _ | 1, _ | 2, _ | 3, _ => simp
theorem cells5 (w : World) (a b c d e : Int) (t : TypeId) : ∀ i, i < 5 → (w.alloc (.cells #[.int .i64 a, .int .i64 b, .int .i64 c, .int .i64 d, .int .i64 e] t)).cell? ⟨w.heap.size, i, none⟩ = some (.int .i64 ([a, b, c, d, e].getD i 0)) := by
  intro i hi
  match i, hi with
  | 0, _ | 1, _ | 2, _ | 3, _ | 4, _ => simp

theorem Kept.new_below {w w1 w' : World} {S : Nat → Prop} (h : Below w.heap.size w w1) (k : Kept S w1 w') (hS : ∀ b, b < w.heap.size → ¬ S b) : Below w.heap.size w w' :=
  h.trans (k.below h.size hS)


end Go.Proofs.YtjkmbicedbdifaaGreat
