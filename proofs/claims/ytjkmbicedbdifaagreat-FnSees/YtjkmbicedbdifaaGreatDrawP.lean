/-
  The model's draws of paths: some text of a bounded length.
-/
import Derived.Test.YtjkmbicedbdifaaGreatJ1
import Derived.Test.YtjkmbicedbdifaaGreatDraw
namespace Go.Proofs.YtjkmbicedbdifaaGreat
open Go.RowKit
set_option linter.unusedVariables false

set_option maxRecDepth 100000 in
set_option maxHeartbeats 800000 in
theorem l1Chance_p (p : Nat) (zs : List Int) (t n : Int) (w : World) (h : Src w p zs t) (hu : U8 zs) (ht0 : 0 ≤ t) (ht1 : t ≤ 1099511627776) (hn0 : 1 ≤ n) (hn1 : n ≤ 2147483648) (hl : zs.length ≤ 1048576) :
    Calls Tryz.prog 82 #[.pointer (some ⟨p, 0, none⟩), .int .i64 n] w fun e w' => ∃ r, e = .returned (.bool r) ∧ Src w' p zs (t + 1) ∧ Kept (fun b => b = p) w w' := by
  have HC := hide (l1Next_any p zs t n w h hu ht0 ht1 hn0 hn1 hl)
  clear h hu
  go_enter Tryz.func82, Tryz.ntmps82
  go_wp2_with fail
  refine HC.out.mono ?_
  rintro e w1 ⟨r, rfl, r0, r1, s1, k1⟩
  have S1 := hide s1
  have K1 := hide k1
  clear s1 k1
  go_wp2_with fail
  go_ret
  exact ⟨_, rfl, S1.out, K1.out⟩

/-- A block of n texts, each of m bytes at most. -/
def Texts (w : World) (g n m : Nat) : Prop := g < w.heap.size ∧ ∀ i, i < n → ∃ x : Bs, w.cell? ⟨g, i, none⟩ = some (.string (str x)) ∧ x.length ≤ m
theorem Texts.new {w : World} {t : TypeId} {vs : List Bs} {m : Nat} (h : ∀ x ∈ vs, x.length ≤ m) : Texts (w.alloc (.cells (vs.map vS).toArray t)) w.heap.size vs.length m := by
  refine ⟨by simp, fun i hi => ⟨vs[i], ?_, h _ (List.getElem_mem hi)⟩⟩
  rw [cell_of_row _ w.heap.size i (vs.map vS).toArray t (0, 0) (heap_alloc_new w _)]
  simp [hi, vS]
theorem Texts.kept {S : Nat → Prop} {w w' : World} {g n m : Nat} (h : Texts w g n m) (hk : Kept S w w') (hn : ¬ S g) : Texts w' g n m :=
  ⟨Nat.lt_of_lt_of_le h.1 hk.size, fun i hi => by obtain ⟨x, hx, hl⟩ := h.2 i hi; exact ⟨x, (hk.cell (p := ⟨g, i, none⟩) h.1 hn).trans hx, hl⟩⟩

set_option maxRecDepth 100000 in
set_option maxHeartbeats 800000 in
theorem l3Name_any (p : Nat) (zs : List Int) (t : Int) (w : World) (h : Src w p zs t) (hu : U8 zs) (ht0 : 0 ≤ t) (ht1 : t ≤ 1099511627776) (hl : zs.length ≤ 1048576) :
    Calls Tryz.prog 150 #[.pointer (some ⟨p, 0, none⟩)] w fun e w' => ∃ x : Bs, e = .returned (.string (str x)) ∧ x.length ≤ 2 ∧ Src w' p zs (t + 1) ∧ Kept (fun b => b = p) w w' := by
  have hp := h.lt
  have T0 := hide (Texts.new (w := w) (t := 9) (vs := [[97], [98], [99], [97, 98]]) (m := 2) (by decide))
  have HS := hide (h.below (below_alloc w (.cells ([[97], [98], [99], [97, 98]].map vS).toArray 9)))
  have HU := hide hu
  clear h hu
  go_enter Tryz.func150, Tryz.ntmps150
  go_wp2_with fail
  refine (l1Next_any p zs t 4 _ HS.out HU.out ht0 ht1 (by decide) (by decide) hl).mono ?_
  rintro e w1 ⟨r, rfl, r0, r1, s1, k1⟩
  have T1 := hide (T0.out.kept k1 (by omega))
  have S1 := hide s1
  have K1 := hide (((Kept.refl (fun b => b = p) w).alloc (.cells ([[97], [98], [99], [97, 98]].map vS).toArray 9)).trans k1)
  clear s1 k1 T0 HS
  obtain ⟨i, rfl⟩ : ∃ i : Nat, r = i := ⟨r.toNat, by omega⟩
  obtain ⟨x, hx, hxl⟩ := T1.out.2 i (by simp; omega)
  have hb := T1.out.1
  go_wp2_with fail
  go_ret
  exact ⟨x, rfl, hxl, S1.out, K1.out⟩

theorem cells5' (w : World) (a b c d e : Int) (t : TypeId) : ∀ i, i < 5 → (w.alloc (.cells #[.int .i64 a, .int .i64 b, .int .i64 c, .int .i64 d, .int .i64 e] t)).cell? ⟨w.heap.size, i, none⟩ = some (.int .i64 ([a, b, c, d, e].getD i 0)) := by
  intro i hi
  match i, hi with
  | 0, _ | 1, _ | 2, _ | 3, _ | 4, _ => simp
theorem join_small : ∀ (ns : List Bs), (∀ n ∈ ns, n.length ≤ 2) → (joinB ns).length ≤ 3 * ns.length
  | [], _ => by simp [joinB]
  | n :: ns, h => by
    have := join_small ns (fun m hm => h m (by simp [hm]))
    have := h n (by simp)
    simp [joinB]; omega

set_option maxRecDepth 100000 in
set_option maxHeartbeats 1600000 in
theorem l3Path_any (p : Nat) (zs : List Int) (t : Int) (w : World) (h : Src w p zs t) (hu : U8 zs) (ht0 : 0 ≤ t) (ht1 : t ≤ 1000000) (hl : zs.length ≤ 1048576) :
    Calls Tryz.prog 122 #[.pointer (some ⟨p, 0, none⟩)] w fun e w' => ∃ x : Bs, e = .returned (.string (str x)) ∧ x.length ≤ 9 ∧ Kept (fun b => b = p) w w' := by
  obtain ⟨i1, ki, kz0, kz1, kz2⟩ := info_parts infoS
  have hp := h.lt
  have HS := hide ((h.below (below_alloc w (.cells #[] 9))).below (below_alloc _ (.cells #[.int .i64 1, .int .i64 1, .int .i64 2, .int .i64 2, .int .i64 3] 2)))
  have O0 := hide (OwnS.below (w' := (w.alloc (.cells #[] 9)).alloc (.cells #[.int .i64 1, .int .i64 1, .int .i64 2, .int .i64 2, .int .i64 3] 2)) (ps := []) (World.ownsRow_made (base := w.heap.size) (e := 9) (size := 1) w #[] 0 (Nat.le_refl _) (Nat.zero_le _) rfl) (below_alloc _ _))
  have HU := hide hu
  have K0 := hide (((Kept.refl (fun b => b = p) w).alloc (.cells #[] 9)).alloc (.cells #[.int .i64 1, .int .i64 1, .int .i64 2, .int .i64 2, .int .i64 3] 2))
  have C5 := hide (cells5' (w.alloc (.cells #[] 9)) 1 1 2 2 3 2)
  clear h hu
  go_enter Tryz.func122, Tryz.ntmps122
  go_wp2_with fail
  refine (l1Pick_any p (w.heap.size + 1) 5 5 [1, 1, 2, 2, 3] zs t _ HS.out HU.out ht0 (by omega) hl (by decide) (by decide) rfl (by omega) (by simp) (by simpa using C5.out)).mono ?_
  rintro e w1 ⟨v, hv, rfl, s1, k1⟩
  have hv2 : 0 ≤ v ∧ v ≤ 3 := by simp at hv; omega
  obtain ⟨m0, rfl⟩ : ∃ m : Nat, v = m := ⟨v.toNat, by omega⟩
  have S1 := hide s1
  have O1 := hide (O0.out.kept k1 (fun b hb e => by have := (O0.out.lt b hb).1; omega))
  have K1 := hide (K0.out.trans k1)
  clear s1 k1 O0 K0 C5 HS hv
  go_wp2_with fail
  go_loopw [3, 4] (fun v k wr => ∃ (q : List Bs) (m : Nat) (t' : Int), k = .int .i64 m ∧ q.length + m ≤ 3 ∧ 0 ≤ t' ∧ t' ≤ t + 1 + q.length ∧ Hid (∀ n ∈ q, n.length ≤ 2) ∧ Hid (OwnS w.heap.size wr v q) ∧ Hid (Src wr p zs t') ∧ Hid (Kept (fun b => b = p) w wr)) (fun _ k _ => (intOf k).toNat)
  case atStart => exact ⟨[], m0, t + 1, rfl, by simp; omega, by omega, by simp, hide (by simp), O1, S1, K1⟩
  case round =>
    obtain ⟨q, m, t', rfl, hqm, ht0', ht1', HN, HO, HSr, HK⟩ := hrel
    obtain ⟨va, vc, rfl⟩ := HO.out.shape
    by_cases hm : 0 < m
    · have hm' : (0 : Int) < (m : Int) := by omega
      have hm1 : q.length + 1 ≤ maxLen := by unfold maxLen; omega
      have hm2 : (q.length + 1) * 16 ≤ 140737488355328 := by omega
      go_wp2_with fail
      refine (l3Name_any p zs t' _ HSr.out HU.out ht0' (by omega) hl).mono ?_
      rintro e w2 ⟨x, rfl, hxl, s2, k2⟩
      have S2 := hide s2
      have O2 := hide (HO.out.kept k2 (fun b hb e => by have := (HO.out.lt b hb).1; omega))
      have K2 := hide (HK.out.trans k2)
      have hsz : w.heap.size ≤ w2.heap.size := K2.out.size
      clear s2 k2
      go_wp2_with (at_builtin; refine wpList_append_one rfl (.tmp 13) (.tmp 16) 26 rfl w.heap.size 9 i1 (.string ⟨#[]⟩) 1 16 Tryz.underlying26 ki kz0 kz1 kz2 rfl (by decide) _ _ _ rfl O2.out rfl rfl (by intro u hu; simp at hu; subst hu; rfl) hm1 hm2 hsz ?_; intro v' w3 hown3 hkept; have O3 := hide (OwnS.snoc hown3 rfl); have K3 := hide hkept; clear hown3 hkept)
      go_roundw
      case rel => exact ⟨q ++ [x], m - 1, t' + 1, by go_num, by simp; omega, by omega, by simp; omega, hide (fun n hn => by rcases List.mem_append.1 hn with h | h; exact HN.out n h; simp at h; rw [h]; exact hxl), O3, hide (S2.out.kept K3.out (fun b hb e => by have := (O2.out.lt b e).1; omega)), hide (K2.out.trans_own K3.out (fun b hb e => by have := (O2.out.lt b e).1; omega))⟩
      case measure => simp [intOf]; omega
    · have hm' : ¬ (0 : Int) < (m : Int) := by omega
      have hjl := join_small q HN.out
      go_wp2_with fail
      refine (l3Join_any _ _ q _ HO.out.reads (by omega) (by omega) _ rfl).mono ?_
      rintro e w2 ⟨rfl, rfl⟩
      go_wp2_with fail
      go_ret
      exact ⟨joinB q, rfl, by omega, HK.out⟩

set_option maxRecDepth 100000 in
set_option maxHeartbeats 1600000 in
theorem l3Bent_any (p : Nat) (zs : List Int) (t : Int) (w : World) (h : Src w p zs t) (hu : U8 zs) (ht0 : 0 ≤ t) (ht1 : t ≤ 10000) (hl : zs.length ≤ 1048576) :
    Calls Tryz.prog 81 #[.pointer (some ⟨p, 0, none⟩)] w fun e w' => ∃ x : Bs, e = .returned (.string (str x)) ∧ x.length ≤ 9 ∧ Kept (fun b => b = p) w w' := by
  have HS := hide h
  have HU := hide hu
  clear h hu
  go_enter Tryz.func81, Tryz.ntmps81
  go_wp2_with fail
  refine (l1Chance_p p zs t 5 _ HS.out HU.out ht0 (by omega) (by decide) (by decide) hl).mono ?_
  rintro e w1 ⟨r, rfl, s1, k1⟩
  have hp := s1.lt
  have S1 := hide s1
  have K1 := hide k1
  clear s1 k1 HS
  cases r
  · go_wp2_with fail
    refine (l3Path_any p zs _ _ S1.out HU.out (by omega) (by omega) hl).mono ?_
    rintro e w2 ⟨x, rfl, hxl, k2⟩
    have K2 := hide (K1.out.trans k2)
    clear k2
    go_wp2_with fail
    go_ret
    exact ⟨x, rfl, hxl, K2.out⟩
  · have T0 := hide (Texts.new (w := w1) (t := 9) (vs := [[], [97], [47, 97, 47], [47, 47], [47, 65], [47, 97, 98, 99, 100, 101], [47, 97, 47, 98, 47, 99, 47, 100], [47], [47, 97, 32, 98]]) (m := 9) (by decide))
    have S2 := hide (S1.out.below (below_alloc w1 (.cells ([[], [97], [47, 97, 47], [47, 47], [47, 65], [47, 97, 98, 99, 100, 101], [47, 97, 47, 98, 47, 99, 47, 100], [47], [47, 97, 32, 98]].map vS).toArray 9)))
    go_wp2_with fail
    refine (l1Next_any p zs _ 9 _ S2.out HU.out (by omega) (by omega) (by decide) (by decide) hl).mono ?_
    rintro e w2 ⟨r, rfl, r0, r1, s2, k2⟩
    have T1 := hide (T0.out.kept k2 (by omega))
    have K2 := hide ((K1.out.alloc (.cells ([[], [97], [47, 97, 47], [47, 47], [47, 65], [47, 97, 98, 99, 100, 101], [47, 97, 47, 98, 47, 99, 47, 100], [47], [47, 97, 32, 98]].map vS).toArray 9)).trans k2)
    clear s2 k2 T0 S2
    obtain ⟨i, rfl⟩ : ∃ i : Nat, r = i := ⟨r.toNat, by omega⟩
    obtain ⟨x, hx, hxl⟩ := T1.out.2 i (by simp; omega)
    have hb := T1.out.1
    go_wp2_with fail
    go_ret
    exact ⟨x, rfl, hxl, K2.out⟩


end Go.Proofs.YtjkmbicedbdifaaGreat
