/-
  The model's draws of a right entry.
-/
import Derived.Test.YtjkmbicedbdifaaGreatDrawS
import Derived.Test.YtjkmbicedbdifaaGreatJ2
namespace Go.Proofs.YtjkmbicedbdifaaGreat
open Go.RowKit Go.Maps
set_option linter.unusedVariables false
attribute [local go_sem ↓] Go.wp_at_zero Go.wp_at_succ

set_option maxRecDepth 100000 in
set_option maxHeartbeats 1600000 in
theorem path_e (p : Nat) (zs : List Int) (T : Int) (w : World) (h : SrcX w p zs T) (hu : U8 zs) (hT : T ≤ 900000) (hl : zs.length ≤ 2097152) :
    Calls Tryz.prog 122 #[.pointer (some ⟨p, 0, none⟩)] w fun e w' => ∃ x : Bs, e = .returned (.string (str x)) ∧ faultP x = 0 ∧ x.length ≤ 9 ∧ SrcX w' p zs (T + 4) ∧ Kept (fun b => b = p) w w' := by
  obtain ⟨i1, ki, kz0, kz1, kz2⟩ := info_parts infoS
  have hp := h.lt
  have HS := hide ((h.below (below_alloc w (.cells #[] 9))).below (below_alloc _ (.cells #[.int .i64 1, .int .i64 1, .int .i64 2, .int .i64 2, .int .i64 3] 2)))
  have O0 := hide (OwnS.below (w' := (w.alloc (.cells #[] 9)).alloc (.cells #[.int .i64 1, .int .i64 1, .int .i64 2, .int .i64 2, .int .i64 3] 2)) (ps := []) (World.ownsRow_made (base := w.heap.size) (e := 9) (size := 1) w #[] 0 (Nat.le_refl _) (Nat.zero_le _) rfl) (below_alloc _ _))
  have HU := hide hu
  have K0 := hide (((Kept.refl (fun b => b = p) w).alloc (.cells #[] 9)).alloc (.cells #[.int .i64 1, .int .i64 1, .int .i64 2, .int .i64 2, .int .i64 3] 2))
  have C5 := hide (cells5' (w.alloc (.cells #[] 9)) 1 1 2 2 3 2)
  clear h hu
  go_enter Tryz.func122, Tryz.ntmps122
  go_wp2_with fail
  refine (pick_e p (w.heap.size + 1) 5 5 [1, 1, 2, 2, 3] zs T _ HS.out HU.out (by omega) hl (by decide) (by decide) rfl (by omega) (by simp) (by simpa using C5.out)).mono ?_
  rintro e w1 ⟨v, hv, rfl, s1, k1⟩
  have hv2 : 1 ≤ v ∧ v ≤ 3 := by simp at hv; omega
  obtain ⟨m0, rfl⟩ : ∃ m : Nat, v = m := ⟨v.toNat, by omega⟩
  have S1 := hide s1
  have O1 := hide (O0.out.kept k1 (fun b hb e => by have := (O0.out.lt b hb).1; omega))
  have K1 := hide (K0.out.trans k1)
  clear s1 k1 O0 K0 C5 HS hv
  go_wp2_with fail
  go_loopw [3, 4] (fun v k wr => ∃ (q : List Bs) (m : Nat), k = .int .i64 m ∧ q.length + m = m0 ∧ Hid (∀ n ∈ q, plain n = true ∧ n.length ≤ 2) ∧ Hid (OwnS w.heap.size wr v q) ∧ Hid (SrcX wr p zs (T + 1 + q.length)) ∧ Hid (Kept (fun b => b = p) w wr)) (fun _ k _ => (intOf k).toNat)
  case atStart => exact ⟨[], m0, rfl, by simp, hide (by simp), O1, hide (by simpa using S1.out), K1⟩
  case round =>
    obtain ⟨q, m, rfl, hqm, HN, HO, HSr, HK⟩ := hrel
    obtain ⟨va, vc, rfl⟩ := HO.out.shape
    by_cases hm : 0 < m
    · have hm' : (0 : Int) < (m : Int) := by omega
      have hm1 : q.length + 1 ≤ maxLen := by unfold maxLen; omega
      have hm2 : (q.length + 1) * 16 ≤ 140737488355328 := by omega
      go_wp2_with fail
      refine (name_e p zs _ _ HSr.out HU.out (by omega) hl).mono ?_
      rintro e w2 ⟨x, rfl, hxl, s2, k2⟩
      have S2 := hide s2
      have HX := hide hxl
      have O2 := hide (HO.out.kept k2 (fun b hb e => by have := (HO.out.lt b hb).1; omega))
      have K2 := hide (HK.out.trans k2)
      have hsz : w.heap.size ≤ w2.heap.size := K2.out.size
      clear s2 k2 hxl
      go_wp2_with (at_builtin; refine wpList_append_one rfl (.tmp 13) (.tmp 16) 26 rfl w.heap.size 9 i1 (.string ⟨#[]⟩) 1 16 Tryz.underlying26 ki kz0 kz1 kz2 rfl (by decide) _ _ _ rfl O2.out rfl rfl (by intro u hu; simp at hu; subst hu; rfl) hm1 hm2 hsz ?_; intro v' w3 hown3 hkept; have O3 := hide (OwnS.snoc hown3 rfl); have K3 := hide hkept; clear hown3 hkept)
      go_roundw
      case rel => exact ⟨q ++ [x], m - 1, by go_num, by simp; omega, hide (fun n hn => by rcases List.mem_append.1 hn with h | h; exact HN.out n h; simp at h; rw [h]; exact HX.out), O3, hide ((S2.out.kept K3.out (fun b hb e => by have := (O2.out.lt b e).1; omega)).mono (by simp; omega)), hide (K2.out.trans_own K3.out (fun b hb e => by have := (O2.out.lt b e).1; omega))⟩
      case measure => simp [intOf]; omega
    · have hm' : ¬ (0 : Int) < (m : Int) := by omega
      have hjl := join_small q (fun n hn => (HN.out n hn).2)
      have HFP := hide (show faultP (joinB q) = 0 from faultP_of ⟨by intro e; rw [e] at hqm; simp at hqm; omega, fun n hn => (HN.out n hn).1, fun n hn => by have := (HN.out n hn).2; omega, by omega⟩)
      go_wp2_with fail
      refine (l3Join_any _ _ q _ HO.out.reads (by omega) (by omega) _ rfl).mono ?_
      rintro e w2 ⟨rfl, rfl⟩
      go_wp2_with fail
      go_ret
      exact ⟨joinB q, rfl, HFP.out, by omega, HSr.out.mono (by omega), HK.out⟩

set_option maxRecDepth 100000 in
set_option maxHeartbeats 1600000 in
theorem bent_e (p : Nat) (zs : List Int) (T : Int) (w : World) (h : SrcX w p zs T) (hu : U8 zs) (hT : T ≤ 800000) (hl : zs.length ≤ 2097152) :
    Calls Tryz.prog 81 #[.pointer (some ⟨p, 0, none⟩)] w fun e w' => ∃ x : Bs, e = .returned (.string (str x)) ∧ x.length ≤ 9 ∧ SrcX w' p zs (T + 5) ∧ Kept (fun b => b = p) w w' := by
  have hp := h.lt
  have HS := hide h
  have HU := hide hu
  clear h hu
  go_enter Tryz.func81, Tryz.ntmps81
  go_wp2_with fail
  refine (chance_e p zs T 5 _ HS.out HU.out (by omega) (by decide) (by decide) hl).mono ?_
  rintro e w1 ⟨r, rfl, s1, k1⟩
  have S1 := hide s1
  have K1 := hide k1
  have hp1 := s1.lt
  clear s1 k1 HS
  cases r
  · go_wp2_with fail
    refine (path_e p zs _ _ S1.out HU.out (by omega) hl).mono ?_
    rintro e w2 ⟨x, rfl, -, hxl, s2, k2⟩
    have S2 := hide s2
    have K2 := hide (K1.out.trans k2)
    clear k2 s2
    go_wp2_with fail
    go_ret
    exact ⟨x, rfl, hxl, S2.out.mono (by omega), K2.out⟩
  · have T0 := hide (TextsQ.new (Q := fun x => x.length ≤ 9) (w := w1) (t := 9) (vs := [[], [97], [47, 97, 47], [47, 47], [47, 65], [47, 97, 98, 99, 100, 101], [47, 97, 47, 98, 47, 99, 47, 100], [47], [47, 97, 32, 98]]) (by decide))
    have S2 := hide (S1.out.below (below_alloc w1 (.cells ([[], [97], [47, 97, 47], [47, 47], [47, 65], [47, 97, 98, 99, 100, 101], [47, 97, 47, 98, 47, 99, 47, 100], [47], [47, 97, 32, 98]].map vS).toArray 9)))
    go_wp2_with fail
    refine (next_e p zs _ 9 _ S2.out HU.out (by omega) (by decide) (by decide) hl).mono ?_
    rintro e w2 ⟨i, rfl, r1, s2, k2⟩
    have T1 := hide (T0.out.kept k2 (by omega))
    have K2 := hide ((K1.out.alloc (.cells ([[], [97], [47, 97, 47], [47, 47], [47, 65], [47, 97, 98, 99, 100, 101], [47, 97, 47, 98, 47, 99, 47, 100], [47], [47, 97, 32, 98]].map vS).toArray 9)).trans k2)
    have S3 := hide s2
    clear s2 k2 T0 S2
    obtain ⟨x, hx, hxl⟩ := T1.out.2 i (by simp; omega)
    have hb := T1.out.1
    go_wp2_with fail
    go_ret
    exact ⟨x, rfl, hxl, S3.out.mono (by omega), K2.out⟩

/-- An entry of a kind without bytes. -/
theorem bare_right {p : Bs} {k : Int} (hp : faultP p = 0) (hk : 2 ≤ k ∧ k ≤ 4) : entFault ⟨p, k, 0, []⟩ = 0 := by
  rw [entFault_digs (e := ⟨p, k, 0, []⟩) hp (decide_eq_true ⟨⟨by show (1 : Int) ≤ k; omega, by show k ≤ 4; omega⟩, .inr ⟨rfl, rfl⟩⟩) (decide_eq_true (show (0 : Int) ≤ 0 ∧ (0 : Int) ≤ 24 by decide)) (decide_eq_true (show ((0 : Nat) : Int) = ((0 : Int) + 7) / 8 by decide))]
  rfl
theorem file_right {p : Bs} {zs : List Int} (hp : faultP p = 0) (hl : zs.length ≤ 24) : entFault (fileE p zs) = 0 := by
  have h1 : formE (fileE p zs) = true := decide_eq_true ⟨by simp [fileE], .inl rfl⟩
  have h2 : sizeE (fileE p zs) = true := decide_eq_true (by simp [fileE]; omega)
  have h3 : manyE (fileE p zs) = true := decide_eq_true (by show ((digs zs (cut zs).length).length : Int) = ((zs.length : Int) + 7) / 8; rw [digs_len, cut_length]; omega)
  rw [entFault_digs hp h1 h2 h3, if_pos]
  rw [List.all_eq_true]
  intro z hz
  simp only [fileE, digs, List.mem_map] at hz
  obtain ⟨i, _, rfl⟩ := hz
  exact decide_eq_true (digest_range _)
/-- An entry that is drawn: where its chunks lie, in new memory. -/
def DrawnE (w : World) (p : Nat) (zs : List Int) (T : Int) (Q : En → Prop) (r : Ending) (w' : World) : Prop :=
  ∃ (e : En) (a : Option Addr) (c : Nat), r = .returned (.agg #[.string (str e.path), .int .i64 e.kind, .int .i64 e.size, .slice a e.chunks.length c]) ∧ Q e ∧ w'.ownsRow w.heap.size 2 1 (.slice a e.chunks.length c) e.chunks.length (e.chunks.map (Value.int .i64)) ∧ SrcX w' p zs T ∧ Kept (fun b => b = p) w w'

end Go.Proofs.YtjkmbicedbdifaaGreat
