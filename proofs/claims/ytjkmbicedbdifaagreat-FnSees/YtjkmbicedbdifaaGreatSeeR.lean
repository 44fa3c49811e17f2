/-
  The program's rising: the map's items by their paths.
-/
import Derived.Test.YtjkmbicedbdifaaGreatSeeQ
namespace Go.Proofs.YtjkmbicedbdifaaGreat
open Go.RowKit Go.Maps Go.Sort Go.Shelf
set_option linter.unusedVariables false
attribute [local go_sem ↓] Go.wp_at_zero Go.wp_at_succ

set_option maxRecDepth 100000 in
set_option maxHeartbeats 1600000 in
theorem insNilS_any (f : Value) (w : World) : Calls Tryz.prog 153 #[.slice none 0 0, .int .i64 0, .int .i64 0, f] w fun r w' => r = .returned (.tuple #[]) ∧ w' = w := by
  go_enter Tryz.func153, Tryz.ntmps153
  go_wp2_with fail
  go_loopw [8] (fun i wr => i = .int .i64 1 ∧ wr = w) (fun i _ => 0)
  case atStart => exact ⟨by go_num, rfl⟩
  case round =>
    obtain ⟨rfl, rfl⟩ := hrel
    go_wp2_with fail
    first | go_end0 | skip
    first | exact ⟨rfl, rfl⟩ | exact ⟨rfl, _, by simp [results, Tryz.results132, go_sem], rfl, rfl⟩
set_option maxRecDepth 100000 in
set_option maxHeartbeats 1600000 in
theorem pdqNilS_any (f : Value) (w : World) : Calls Tryz.prog 132 #[.slice none 0 0, .int .i64 0, .int .i64 0, .int .i64 0, f] w fun r w' => r = .returned (.tuple #[]) ∧ w' = w := by
  go_enter Tryz.func132, Tryz.ntmps132
  go_wp2_with fail
  go_loopw [1, 2] (fun i j wr => i = .int .i64 0 ∧ j = .int .i64 0 ∧ wr = w) (fun i j _ => 0)
  case atStart => exact ⟨rfl, rfl, rfl⟩
  case round =>
    obtain ⟨rfl, rfl, rfl⟩ := hrel
    go_wp2_with fail
    refine (insNilS_any f _).mono ?_
    rintro r w1 ⟨rfl, rfl⟩
    go_wp2_with fail
    first | go_end0 | skip
    first | exact ⟨rfl, rfl⟩ | exact ⟨rfl, _, by simp [results, Tryz.results132, go_sem], rfl, rfl⟩
set_option maxRecDepth 100000 in
set_option maxHeartbeats 1600000 in
theorem sortNilS_any (f : Value) (w : World) : Calls Tryz.prog 99 #[.slice none 0 0, f] w fun r w' => r = .returned (.tuple #[]) ∧ w' = w := by
  have HL : Hid (Calls Tryz.prog 133 #[.int .u64 0] w fun e w' => e = .returned (.int .i64 0) ∧ w' = w) := hide (by
    have h3 := Any.bits_Len Tryz.lenT 0 w (by omega) (by omega)
    exact h3)
  have wr : IntKind.u64.wrap 0 = 0 := by simp [IntKind.wrap, IntKind.bits, IntKind.signed]
  go_enter Tryz.func99, Tryz.ntmps99
  go_wp2_with fail
  refine HL.out.mono ?_
  rintro e w1 ⟨rfl, rfl⟩
  go_wp2_with fail
  refine (pdqNilS_any f _).mono ?_
  rintro r w1 ⟨rfl, rfl⟩
  go_wp2_with fail
  first | go_end0 | skip
  exact ⟨rfl, rfl⟩

theorem insR (r : Rw) : ∀ ss : List Rw, ss.Pairwise (fun x y => Op.bytesLess x.e.path y.e.path = true) → (∀ x ∈ ss, x.e.path ≠ r.e.path) → ∃ s2 : List Rw, s2.Perm (r :: ss) ∧ s2.Pairwise (fun x y => Op.bytesLess x.e.path y.e.path = true)
  | [], _, _ => ⟨[r], List.Perm.refl _, by simp⟩
  | x :: t, h, hn => by
    obtain ⟨h1, h2⟩ := List.pairwise_cons.1 h
    by_cases hr : Op.bytesLess r.e.path x.e.path = true
    · refine ⟨r :: x :: t, List.Perm.refl _, List.pairwise_cons.2 ⟨fun y hy => ?_, h⟩⟩
      rcases List.mem_cons.1 hy with rfl | hy
      · exact hr
      · exact bl_trans _ _ _ hr (h1 y hy)
    · obtain ⟨s2, hp, hs⟩ := insR r t h2 (fun y hy => hn y (List.mem_cons_of_mem _ hy))
      refine ⟨x :: s2, ((hp.cons x).trans (List.Perm.swap _ _ _)), List.pairwise_cons.2 ⟨fun y hy => ?_, hs⟩⟩
      rcases List.mem_cons.1 (hp.mem_iff.1 hy) with rfl | hy
      · exact bl_total _ _ (by simpa using hr) (hn x List.mem_cons_self).symm
      · exact h1 y hy
theorem sortR : ∀ rs : List Rw, rs.Pairwise (fun x y => x.e.path ≠ y.e.path) → ∃ ss : List Rw, ss.Perm rs ∧ ss.Pairwise (fun x y => Op.bytesLess x.e.path y.e.path = true)
  | [], _ => ⟨[], List.Perm.refl _, List.Pairwise.nil⟩
  | r :: t, h => by
    obtain ⟨h1, h2⟩ := List.pairwise_cons.1 h
    obtain ⟨ss, hp, hs⟩ := sortR t h2
    obtain ⟨s2, hp2, hs2⟩ := insR r ss hs (fun x hx => (h1 x (hp.mem_iff.1 hx)).symm)
    exact ⟨s2, hp2.trans (hp.cons r), hs2⟩
/-- No two spots have items of one path. -/
def OneP (S : Nat → Bs → Option En) : Prop := ∀ i j p q e f, S i p = some e → S j q = some f → e.path = f.path → (i, p) = (j, q)
theorem CameS.apart {w0 : World} {S : Nat → Bs → Option En} {left : Lit → Bool} {ss : List ((Nat × Bs) × Rw)} (h : CameS w0 S left ss) (ho : OneP S) : (ss.map Prod.snd).Pairwise (fun x y => x.e.path ≠ y.e.path) := by
  rw [List.pairwise_map]
  have h1 := h.one
  rw [List.Nodup, List.pairwise_map] at h1
  refine h1.imp_of_mem (fun {x y} hx hy hne he => ?_)
  exact hne (ho _ _ _ _ _ _ (h.was x hx).2.2.1 (h.was y hy).2.2.1 he)
theorem CameS.mem {w0 : World} {S : Nat → Bs → Option En} {ss : List ((Nat × Bs) × Rw)} (h : CameS w0 S (fun _ => false) ss) (e : En) : e ∈ (ss.map Prod.snd).map Rw.e ↔ ∃ i p, i ≤ 100 ∧ p.length ≤ 1048576 ∧ S i p = some e := by
  constructor
  · intro he
    obtain ⟨r, hr, rfl⟩ := List.mem_map.1 he
    obtain ⟨x, hx, rfl⟩ := List.mem_map.1 hr
    obtain ⟨a1, a2, a3, -⟩ := h.was x hx
    exact ⟨_, _, a1, a2, a3⟩
  · rintro ⟨i, p, hi, hp, hS⟩
    obtain ⟨x, hx, hxe⟩ := List.mem_map.1 (h.all i p e hi hp hS rfl)
    obtain ⟨a1, a2, a3, -⟩ := h.was x hx
    rw [hxe] at a3
    have : x.2.e = e := by rw [hS] at a3; exact (Option.some.inj a3).symm
    exact List.mem_map.2 ⟨x.2, List.mem_map.2 ⟨x, hx, rfl⟩, this⟩

set_option maxRecDepth 100000 in
set_option maxHeartbeats 1600000 in
theorem collectI_any (Bm b N : Nat) (S : Nat → Bs → Option En) (w0 w : World) (hBm : Bm < w.heap.size) (hm : w.cell? ⟨Bm, 0, none⟩ = some (.map (some b))) (hS : SeeM w0 w b N S) (hN : N ≤ 1000) :
    Calls Tryz.prog 98 #[.func (.func 100) #[] #[.pointer (some ⟨Bm, 0, none⟩)]] w fun e w' => ∃ (v : Value) (ss : List ((Nat × Bs) × Rw)), e = .returned v ∧ ss.length ≤ N ∧ CameS w0 S (fun _ => false) ss ∧ w'.ownsRow w.heap.size 64 4 v (ss.map Prod.snd).length (rowI (ss.map Prod.snd)) ∧ Below w.heap.size w w' := by
  have HA := hide (callsIn_wide.1 (appendSeqI_in Fence.wide 5 trivial rfl (by omega) trivial Bm b N S w0 w hBm hm hS hN))
  clear hS hm
  go_enter Tryz.func98, Tryz.ntmps98
  go_wp2_with fail
  refine HA.out.mono ?_
  rintro e w1 ⟨v, ss, rfl, hln, hC, hrow, -, hb⟩
  have HC := hide hC
  have HRw := hide hrow
  have HB := hide hb
  clear hC hrow hb
  go_wp2_with fail
  go_ret
  exact ⟨v, ss, rfl, hln, HC.out, HRw.out, HB.out⟩
theorem rdI_sorted {w : World} {g : Nat} {ss : List Rw} (hg : ss ≠ [] → g < w.heap.size) (hc : ∀ i q r, ss[i]? = some r → q < 4 → w.cell? ⟨g, i * 4 + q, none⟩ = (cellsI r)[q]?) (hr : ∀ r ∈ ss, Reads .i64 w r.a r.e.chunks) : RdI w (some ⟨g, 0, none⟩) (ss.map Rw.e) := by
  intro hz
  refine ⟨g, 0, fun i => ((ss[i]?).map Rw.a).getD none, fun i => ((ss[i]?).map Rw.c).getD 0, rfl, hg (fun e => hz (by rw [e]; rfl)), fun i e he => ?_⟩
  rw [List.getElem?_map] at he
  obtain ⟨r, hri, rfl⟩ := Option.map_eq_some_iff.1 he
  simp only [hri, Option.map_some, Option.getD_some, Nat.zero_add]
  exact ⟨hc i 0 r hri (by omega), hc i 1 r hri (by omega), hc i 2 r hri (by omega), hc i 3 r hri (by omega), hr r (List.mem_of_getElem? hri)⟩
set_option maxRecDepth 100000 in
set_option maxHeartbeats 1600000 in
theorem sortedI_any (Bm b N : Nat) (S : Nat → Bs → Option En) (w0 w : World) (hBm : Bm < w.heap.size) (hm : w.cell? ⟨Bm, 0, none⟩ = some (.map (some b))) (hS : SeeM w0 w b N S) (hN : N ≤ 1000) (ho : OneP S) (hw0 : Below w0.heap.size w0 w) :
    Calls Tryz.prog 63 #[.func (.func 100) #[] #[.pointer (some ⟨Bm, 0, none⟩)], .func (.func 65) #[] #[]] w fun r w' => ∃ av cv rs, r = .returned (.slice av rs.length cv) ∧ Rise rs ∧ (∀ e, e ∈ rs ↔ ∃ i p, i ≤ 100 ∧ p.length ≤ 1048576 ∧ S i p = some e) ∧ RdI w' av rs ∧ Below w.heap.size w w' := by
  have HCo := hide (collectI_any Bm b N S w0 w hBm hm hS hN)
  clear hS hm
  go_enter Tryz.func63, Tryz.ntmps63
  go_wp2_with fail
  refine HCo.out.mono ?_
  rintro e w1 ⟨v, cs, rfl, hln, hC, hrow, hb1⟩
  have HM := hide hC.mem
  obtain ⟨ss, hperm, hsort⟩ := sortR _ (hC.apart ho)
  have HRd := hide (show ∀ r ∈ ss, Reads .i64 w0 r.a r.e.chunks from fun r hr => by
    obtain ⟨x, hx, rfl⟩ := List.mem_map.1 (hperm.mem_iff.1 hr)
    exact (hC.was x hx).2.2.2.1)
  have HB1 := hide hb1
  have HB0 := hide (below_next hw0 hb1)
  have HP := hide hperm
  have HSo := hide hsort
  have hlen : (cs.map Prod.snd).length ≤ 1000 := by rw [List.length_map]; omega
  have hsw := hw0.size
  have hsw1 := hb1.size
  clear hC hperm hsort hb1 hw0 hln
  generalize cs.map Prod.snd = rs at *
  rcases hrow.2 with ⟨rfl, h0⟩ | ⟨g, cap, cur, rfl, hgw, hgb, hx⟩
  · have hrs : rs = [] := List.length_eq_zero_iff.1 h0
    subst hrs
    go_wp2_with fail
    refine (sortNilS_any _ _).mono ?_
    rintro r w2 ⟨rfl, rfl⟩
    go_wp2_with fail
    go_ret
    exact ⟨none, 0, [], rfl, List.Pairwise.nil, fun e => by rw [← HM.out e]; simp, fun hz => absurd rfl hz, HB1.out⟩
  · have HSS := hide (sortSlice_any w.heap.size g rs.length cap rs ss w1 hrow rfl (by omega) HP.out HSo.out)
    have hgl : g < w1.heap.size := (Array.getElem?_eq_some_iff.1 hgb).1
    have HL := hide (show rs.length = (ss.map Rw.e).length by rw [List.length_map]; exact HP.out.length_eq.symm)
    clear hrow hgb hx
    go_wp2_with fail
    refine HSS.out.mono ?_
    rintro r w2 ⟨rfl, hcells, hk⟩
    have B2 := hide (kept_below HB1.out hk (by omega) (by omega))
    have B02 := hide (kept_below HB0.out hk (by omega) (by omega))
    have hsz2 := hk.size
    have RI := hide (rdI_sorted (w := w2) (g := g) (ss := ss) (fun _ => by omega) hcells (fun r hr => (HRd.out r hr).below B02.out))
    clear hcells hk HSS
    go_wp2_with fail
    go_ret
    refine ⟨some ⟨g, 0, none⟩, cap, ss.map Rw.e, by rw [HL.out]; rfl, ?_, fun e => ?_, RI.out, B2.out⟩
    · unfold Rise
      rw [List.pairwise_map]
      exact HSo.out
    · rw [← HM.out e]
      exact (HP.out.map Rw.e).mem_iff
set_option maxRecDepth 100000 in
set_option maxHeartbeats 1600000 in
theorem rising_any (b N : Nat) (S : Nat → Bs → Option En) (w0 w : World) (hS : SeeM w0 w b N S) (hN : N ≤ 1000) (ho : OneP S) (hw0 : Below w0.heap.size w0 w) :
    Calls Tryz.prog 26 #[.map (some b)] w fun r w' => ∃ av cv rs, r = .returned (.slice av rs.length cv) ∧ Rise rs ∧ (∀ e, e ∈ rs ↔ ∃ i p, i ≤ 100 ∧ p.length ≤ 1048576 ∧ S i p = some e) ∧ RdI w' av rs ∧ Below w.heap.size w w' := by
  have hV : Calls Tryz.prog 64 #[.map (some b)] w fun r w' => r = .returned (.func (.func 100) #[] #[.pointer (some ⟨w.heap.size, 0, none⟩)]) ∧ w' = w.alloc (.cells #[.map (some b)] 57) := by
    go_enter Tryz.func64, Tryz.ntmps64
    go_wp2_with fail
    go_ret
    exact ⟨rfl, rfl⟩
  have HV := hide hV
  have B0 := hide (below_alloc w (.cells #[.map (some b)] 57))
  have HSo := hide (sortedI_any w.heap.size b N S w0 (w.alloc (.cells #[.map (some b)] 57)) (by simp) (by simp) (hS.below B0.out) hN ho (below_next hw0 B0.out))
  clear hV hS hw0
  go_enter Tryz.func26, Tryz.ntmps26
  go_wp2_with fail
  refine HV.out.mono ?_
  rintro r w1 ⟨rfl, rfl⟩
  go_wp2_with fail
  refine HSo.out.mono ?_
  rintro r w2 ⟨av, cv, rs, rfl, h1, h2, h3, h4⟩
  have H1 := hide h1
  have H2 := hide h2
  have H3 := hide h3
  have H4 := hide (below_next B0.out h4)
  clear h1 h2 h3 h4
  go_wp2_with fail
  go_ret
  exact ⟨av, cv, rs, rfl, H1.out, H2.out, H3.out, H4.out⟩
end Go.Proofs.YtjkmbicedbdifaaGreat
