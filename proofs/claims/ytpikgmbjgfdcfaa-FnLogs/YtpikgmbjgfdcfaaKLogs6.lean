/-
  Texts put together: LogDc.
-/
import Derived.Test.YtpikgmbjgfdcfaaKLogs5
namespace Go.Proofs.Ytpikgmbjgfdcfaa
open Go.RowKit
set_option linter.unusedVariables false

theorem cells6 (w : World) (a b c d e f : Int) (t : TypeId) : ∀ i, i < 6 → (w.alloc (.cells #[.int .i64 a, .int .i64 b, .int .i64 c, .int .i64 d, .int .i64 e, .int .i64 f] t)).cell? ⟨w.heap.size, i, none⟩ = some (.int .i64 ([a, b, c, d, e, f].getD i 0)) := by
  intro i hi
  match i, hi with
  | 0, _ | 1, _ | 2, _ | 3, _ | 4, _ | 5, _ => simp
set_option maxRecDepth 100000 in
set_option maxHeartbeats 1600000 in
theorem drawCrashLog_any (a : Option Addr) (cap : Nat) (zs : List Int) (w : World) (h : Reads .u8 w a zs) (hu : U8 zs) (hl : zs.length ≤ 1048576) :
    Calls Try.prog 10 #[.slice a zs.length cap] w fun e w' => ∃ sa sc S la lc L d, e = .returned (.tuple #[.agg #[.slice sa S.length sc, .slice la L.length lc], .int .i64 d]) ∧ RdL' w' sa sc S la lc L ∧ S.length ≤ 2001 ∧ L.length ≤ 2001 ∧ -1 ≤ d ∧ d ≤ L.length + 1 ∧ Below w.heap.size w w' := by
  have HU := hide hu
  have A0 := hide (below_alloc w (.cells #[.slice none 0 0, .slice none 0 0] 25))
  have X0 := hide (Box.new w (.slice none 0 0) (.slice none 0 0) 25)
  have HR := hide (h.below A0.out)
  clear h hu
  go_enter Try.func10, Try.ntmps10
  go_wp2_with fail
  refine (l1Source_any a cap zs _ HR.out).mono ?_
  rintro e w1 ⟨rfl, s1, hz1, b1⟩
  have hz : (w.alloc (.cells #[.slice none 0 0, .slice none 0 0] 25)).heap.size = w.heap.size + 1 := by simp
  rw [hz] at s1 hz1 ⊢
  have B1 := hide (below_next A0.out b1)
  have X1 := hide (X0.out.below b1)
  have HSZ := hide hz1
  have S1 := hide s1
  clear s1 b1 hz hz1 X0 A0
  go_wp2_with fail
  refine (l14Log_any (w.heap.size + 1) zs 0 _ S1.out HU.out (by decide) (by decide) hl).mono ?_
  rintro e w2 ⟨sa, sc, S, la, lc, L, rfl, g1, g2, us, ul, ns, nl, ⟨t2, t20, t21, s2⟩, k2⟩
  have hz1 : w1.heap.size = w.heap.size + 2 := HSZ.out
  have hz2 : w.heap.size + 2 ≤ w2.heap.size := by have := k2.size; omega
  have A2 := hide (below_alloc w2 (.cells #[.slice sa S.length sc, .slice la L.length lc] 25))
  have B2 := hide ((B1.out.trans (k2.below (B := w.heap.size) B1.out.size (fun b hb e => by omega))))
  have X2 := hide ((X1.out.kept k2 (by omega)).below A2.out)
  have Y2 := hide (Two.new w2 (.slice sa S.length sc) (.slice la L.length lc) 25)
  have G1 := hide ((g1.low (B' := w.heap.size + 2) (by omega)).below A2.out)
  have G2 := hide ((g2.low (B' := w.heap.size + 2) (by omega)).below A2.out)
  have S2 := hide (s2.below A2.out)
  have UU := hide (And.intro us ul)
  have hsA : w2.heap.size < (w2.alloc (.cells #[.slice sa S.length sc, .slice la L.length lc] 25)).heap.size := by simp
  have BB2 := hide (below_next B2.out A2.out)
  clear g1 g2 us ul s2 k2 hz1 HSZ S1 X1 B1 B2
  obtain ⟨y0, y1⟩ := Y2.out
  go_wp2_with fail
  clear y0 y1
  generalize w2.alloc (.cells #[.slice sa S.length sc, .slice la L.length lc] 25) = W2 at *
  have KB : Hid (∀ u : World, Kept (fun b => b = w.heap.size + 1) W2 u → u.cell? ⟨w2.heap.size, 0, none⟩ = some (.slice sa S.length sc) ∧ u.cell? ⟨w2.heap.size, 1, none⟩ = some (.slice la L.length lc)) := hide (fun u hk => Y2.out.kept hk (by omega))
  refine wp_region_held_drew (S := fun u => u.cell? ⟨w2.heap.size, 0, none⟩ = some (.slice sa S.length sc) ∧ u.cell? ⟨w2.heap.size, 1, none⟩ = some (.slice la L.length lc)) (by kernel_rfl) (KB.out _ (Kept.refl _ _).drew) (fun hHeld => ?_)
  change wpAnyH _ _ _ _ _ _ (Array.replicate _ false) _ (World.drew _)
  have KR := hide ((Kept.refl (fun b => b = w.heap.size + 1) W2).drew)
  have SR : Hid (Src W2.drew (w.heap.size + 1) zs t2) := hide (S2.out.drewN 1)
  have hsD : W2.heap.size ≤ W2.drew.heap.size := Nat.le_refl _
  generalize W2.drew = D at *
  refine tkd 0 14 (.agg #[.slice sa S.length sc, .slice la L.length lc]) hHeld rfl (by kernel_rfl) (by kernel_rfl) (by kernel_rfl) (fun _ _ _ h => h) (Or.inl ⟨by rfl, ?_⟩) ?_
  · rintro w ⟨q0, q1⟩
    go_simp
  try simp only [Act.put, List.setIfInBounds_toArray, List.set_cons_zero, List.set_cons_succ]
  refine tkd 1 15 (.pointer (some ⟨w.heap.size + 1, 0, none⟩)) hHeld rfl (by kernel_rfl) (by kernel_rfl) (by kernel_rfl) (fun _ _ _ h => h) (Or.inl ⟨by rfl, ?_⟩) ?_
  · rintro w ⟨q0, q1⟩
    go_simp
  try simp only [Act.put, List.setIfInBounds_toArray, List.set_cons_zero, List.set_cons_succ]
  refine tkd 2 16 (.pointer (some ⟨w.heap.size + 1, 0, none⟩)) hHeld rfl (by kernel_rfl) (by kernel_rfl) (by kernel_rfl) (fun _ _ _ h => h) (Or.inl ⟨by rfl, ?_⟩) ?_
  · rintro w ⟨q0, q1⟩
    go_simp
  try simp only [Act.put, List.setIfInBounds_toArray, List.set_cons_zero, List.set_cons_succ]
  refine tkd 3 17 (.int .i64 (L.length : Int)) hHeld rfl (by kernel_rfl) (by kernel_rfl) (by kernel_rfl) (fun _ _ _ h => h) (Or.inl ⟨by rfl, ?_⟩) ?_
  · rintro w ⟨q0, q1⟩
    go_simp
  try simp only [Act.put, List.setIfInBounds_toArray, List.set_cons_zero, List.set_cons_succ]
  refine tkd 4 18 (.int .i64 ((L.length : Int) + 1)) hHeld rfl (by kernel_rfl) (by kernel_rfl) (by kernel_rfl) (fun _ _ _ h => h) (Or.inl ⟨by rfl, ?_⟩) ?_
  · rintro w ⟨q0, q1⟩
    go_simp <;> (first | done | decide | omega | (simp [IntKind.wrap, IntKind.bits, IntKind.signed]; omega))
  try simp only [Act.put, List.setIfInBounds_toArray, List.set_cons_zero, List.set_cons_succ]
  refine tkd 6 20 (.pointer (some ⟨w.heap.size + 1, 0, none⟩)) hHeld rfl (by kernel_rfl) (by kernel_rfl) (by kernel_rfl) (fun _ _ _ h => h) (Or.inl ⟨by rfl, ?_⟩) ?_
  · rintro w ⟨q0, q1⟩
    go_simp
  try simp only [Act.put, List.setIfInBounds_toArray, List.set_cons_zero, List.set_cons_succ]
  refine tkd 7 21 (.int .i64 (L.length : Int)) hHeld rfl (by kernel_rfl) (by kernel_rfl) (by kernel_rfl) (fun _ _ _ h => h) (Or.inl ⟨by rfl, ?_⟩) ?_
  · rintro w ⟨q0, q1⟩
    go_simp
  try simp only [Act.put, List.setIfInBounds_toArray, List.set_cons_zero, List.set_cons_succ]
  refine tkd 8 22 (.int .i64 ((L.length : Int) + 1)) hHeld rfl (by kernel_rfl) (by kernel_rfl) (by kernel_rfl) (fun _ _ _ h => h) (Or.inl ⟨by rfl, ?_⟩) ?_
  · rintro w ⟨q0, q1⟩
    go_simp <;> (first | done | decide | omega | (simp [IntKind.wrap, IntKind.bits, IntKind.signed]; omega))
  try simp only [Act.put, List.setIfInBounds_toArray, List.set_cons_zero, List.set_cons_succ]
  refine tkd 10 24 (.int .i64 (L.length : Int)) hHeld rfl (by kernel_rfl) (by kernel_rfl) (by kernel_rfl) (fun _ _ _ h => h) (Or.inl ⟨by rfl, ?_⟩) ?_
  · rintro w ⟨q0, q1⟩
    go_simp
  try simp only [Act.put, List.setIfInBounds_toArray, List.set_cons_zero, List.set_cons_succ]
  refine tkd 11 25 (.int .i64 (L.length : Int)) hHeld rfl (by kernel_rfl) (by kernel_rfl) (by kernel_rfl) (fun _ _ _ h => h) (Or.inl ⟨by rfl, ?_⟩) ?_
  · rintro w ⟨q0, q1⟩
    go_simp
  try simp only [Act.put, List.setIfInBounds_toArray, List.set_cons_zero, List.set_cons_succ]
  refine tkd 12 26 (.int .i64 ((L.length : Int) + 1)) hHeld rfl (by kernel_rfl) (by kernel_rfl) (by kernel_rfl) (fun _ _ _ h => h) (Or.inl ⟨by rfl, ?_⟩) ?_
  · rintro w ⟨q0, q1⟩
    go_simp <;> (first | done | decide | omega | (simp [IntKind.wrap, IntKind.bits, IntKind.signed]; omega))
  try simp only [Act.put, List.setIfInBounds_toArray, List.set_cons_zero, List.set_cons_succ]
  refine wpAnyH_ready (rs := [5]) (by kernel_rfl) (by simp) ?_
  refine AllReadyH.cons rfl (fun K hK => ?_) AllReadyH.nil
  go_simp
  refine (l1Next_any (w.heap.size + 1) zs (t2) ((L.length : Int) + 1) D SR.out HU.out (by omega) (by omega) (by omega) (by omega) hl).mono ?_
  rintro e w3 ⟨r, rfl, r0, r1, sw3, kw3⟩
  have KRn := hide (KR.out.trans kw3)
  have SRn := hide sw3
  have hsw3 : D.heap.size ≤ w3.heap.size := kw3.size
  clear sw3 kw3 KR SR
  have KR := KRn
  have SR := SRn
  clear KRn SRn
  go_wp2_with fail
  refine hK.out _ _ (KB.out _ KR.out) (fun hHeld => ?_)
  clear hK K
  try simp only [Act.put, List.setIfInBounds_toArray, List.set_cons_zero, List.set_cons_succ]
  refine wpAnyH_ready (rs := [9]) (by kernel_rfl) (by simp) ?_
  refine AllReadyH.cons rfl (fun K hK => ?_) AllReadyH.nil
  go_simp
  refine (l1Next_any (w.heap.size + 1) zs (t2 + 1) ((L.length : Int) + 1) w3 SR.out HU.out (by omega) (by omega) (by omega) (by omega) hl).mono ?_
  rintro e w4 ⟨s, rfl, s0, s1, sw4, kw4⟩
  have KRn := hide (KR.out.trans kw4)
  have SRn := hide sw4
  have hsw4 : w3.heap.size ≤ w4.heap.size := kw4.size
  clear sw4 kw4 KR SR
  have KR := KRn
  have SR := SRn
  clear KRn SRn
  go_wp2_with fail
  refine hK.out _ _ (KB.out _ KR.out) (fun hHeld => ?_)
  clear hK K
  try simp only [Act.put, List.setIfInBounds_toArray, List.set_cons_zero, List.set_cons_succ]
  refine wpAnyH_ready (rs := [13]) (by kernel_rfl) (by simp) ?_
  refine AllReadyH.cons rfl (fun K hK => ?_) AllReadyH.nil
  have KRn := hide (KR.out.trans ((Kept.of_below (below_alloc w4 (.cells #[.int .i64 r, .int .i64 s, .int .i64 0, .int .i64 (L.length : Int), .int .i64 ((L.length : Int) + 1), .int .i64 (-1)] 2)))))
  have SRn := hide (SR.out.below (below_alloc w4 (.cells #[.int .i64 r, .int .i64 s, .int .i64 0, .int .i64 (L.length : Int), .int .i64 ((L.length : Int) + 1), .int .i64 (-1)] 2)))
  have HC6 := hide (cells6 w4 r s 0 (L.length : Int) ((L.length : Int) + 1) (-1) 2)
  have hs5 : w4.heap.size < (w4.alloc (.cells #[.int .i64 r, .int .i64 s, .int .i64 0, .int .i64 (L.length : Int), .int .i64 ((L.length : Int) + 1), .int .i64 (-1)] 2)).heap.size := by simp
  go_simp
  refine hK.out _ _ (KB.out _ KRn.out) (fun hHeld => ?_)
  clear hK K KR SR
  have KR := KRn
  have SR := SRn
  clear KRn SRn
  try simp only [Act.put, List.setIfInBounds_toArray, List.set_cons_zero, List.set_cons_succ]
  generalize w4.alloc (.cells #[.int .i64 r, .int .i64 s, .int .i64 0, .int .i64 (L.length : Int), .int .i64 ((L.length : Int) + 1), .int .i64 (-1)] 2) = w5 at *
  refine wpAnyH_ready (rs := [14]) (by kernel_rfl) (by simp) ?_
  refine AllReadyH.cons rfl (fun K hK => ?_) AllReadyH.nil
  go_simp
  refine (l1Pick_any (w.heap.size + 1) w4.heap.size 6 6 [r, s, 0, (L.length : Int), (L.length : Int) + 1, -1] zs (t2 + 1 + 1) w5 SR.out HU.out (by omega) (by omega) hl (by decide) (by decide) rfl (by omega) hs5 HC6.out).mono ?_
  rintro e w6 ⟨d, hd, rfl, s6, k6⟩
  have hd2 : -1 ≤ d ∧ d ≤ (L.length : Int) + 1 := by simp at hd; omega
  have KRn := hide (KR.out.trans k6)
  have hs6 := k6.size
  clear hd s6 k6 KR SR
  have KR := KRn
  clear KRn
  go_wp2_with fail
  refine hK.out _ _ (KB.out _ KR.out) (fun hHeld => ?_)
  clear hK K
  try simp only [Act.put, List.setIfInBounds_toArray, List.set_cons_zero, List.set_cons_succ]
  have X6 := hide (X2.out.kept KR.out (by omega))
  have KX := hide (Kept.two w6 w.heap.size 0 1 (.slice sa S.length sc) (.slice la L.length lc))
  have KZ := hide ((KB.out _ KR.out))
  have G16 := hide ((G1.out.kept KR.out (fun b h1 h2 e => by omega)).kept KX.out (fun b h1 h2 e => by omega))
  have G26 := hide ((G2.out.kept KR.out (fun b h1 h2 e => by omega)).kept KX.out (fun b h1 h2 e => by omega))
  have BE := hide ((BB2.out.trans (KR.out.below (B := w.heap.size) BB2.out.size (fun b hb e => by omega))).trans (KX.out.below (B := w.heap.size) (by omega) (fun b hb e => by omega)))
  obtain ⟨⟨x0, x1⟩, x2, x3⟩ := X6.out
  refine wpAnyH_ready (rs := [15]) (by kernel_rfl) (by simp) ?_
  refine AllReadyH.cons rfl (fun K hK => ?_) AllReadyH.nil
  go_simp
  refine hK.out _ _ ⟨(KX.out.cell (p := ⟨w2.heap.size, 0, none⟩) (show w2.heap.size < w6.heap.size by omega) (show ¬ w2.heap.size = w.heap.size by omega)).trans KZ.out.1, (KX.out.cell (p := ⟨w2.heap.size, 1, none⟩) (show w2.heap.size < w6.heap.size by omega) (show ¬ w2.heap.size = w.heap.size by omega)).trans KZ.out.2⟩ (fun hHeld => ?_)
  clear hK K
  try simp only [Act.put, List.setIfInBounds_toArray, List.set_cons_zero, List.set_cons_succ]
  refine wpAnyH_ready (rs := [16]) (by kernel_rfl) (by simp) ?_
  refine AllReadyH.cons rfl (fun K hK => ?_) AllReadyH.nil
  go_simp
  refine hK.out _ _ ⟨(KX.out.cell (p := ⟨w2.heap.size, 0, none⟩) (show w2.heap.size < w6.heap.size by omega) (show ¬ w2.heap.size = w.heap.size by omega)).trans KZ.out.1, (KX.out.cell (p := ⟨w2.heap.size, 1, none⟩) (show w2.heap.size < w6.heap.size by omega) (show ¬ w2.heap.size = w.heap.size by omega)).trans KZ.out.2⟩ (fun hHeld => ?_)
  clear hK K
  try simp only [Act.put, List.setIfInBounds_toArray, List.set_cons_zero, List.set_cons_succ]
  refine wpAnyH_done (by kernel_rfl) ?_ _
  go_wp2_with fail
  refine bodyPost_ret (v := .tuple #[.agg #[.slice sa S.length sc, .slice la L.length lc], .int .i64 d]) (by simp [results, Try.results10, go_sem, x0, x1]) rfl ⟨sa, sc, S, la, lc, L, d, rfl, ⟨G16.out.own.reads, G26.out.own.reads, UU.out.1, UU.out.2, ownsRow_cap G16.out.1, ownsRow_cap G26.out.1, by omega, by omega⟩, ns, nl, hd2.1, hd2.2, BE.out⟩
end Go.Proofs.Ytpikgmbjgfdcfaa

