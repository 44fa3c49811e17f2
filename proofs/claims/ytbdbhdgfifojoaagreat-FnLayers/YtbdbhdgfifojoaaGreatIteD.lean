/-
  The program's list of entries made of a list of items.
-/
import Derived.Test.YtbdbhdgfifojoaaGreatIteC
namespace Go.Proofs.YtbdbhdgfifojoaaGreat
open Go.RowKit Go.Maps
set_option linter.unusedVariables false
attribute [local go_sem ↓] Go.wp_at_zero Go.wp_at_succ

theorem RdI.fresh {w : World} {e : En} {x : Option Addr} {c : Nat} {t : TypeId} (h : Reads .i64 w x e.chunks) : RdI (w.alloc (.cells #[.int .i64 e.size, .slice x e.chunks.length c, .string (str e.path), .int .i64 e.kind] t)) (some ⟨w.heap.size, 0, none⟩) [e] := by
  intro _
  obtain ⟨f0, f1, f2, f3⟩ := Four.new w (.int .i64 e.size) (.slice x e.chunks.length c) (.string (str e.path)) (.int .i64 e.kind) t
  refine ⟨w.heap.size, 0, fun _ => x, fun _ => c, rfl, by simp, fun i y hy => ?_⟩
  have hi : i = 0 := by
    have := (List.getElem?_eq_some_iff.1 hy).1
    simp at this
    exact this
  subst hi
  simp only [List.getElem?_cons_zero, Option.some.injEq] at hy
  subst hy
  simp only [Nat.zero_mul, Nat.add_zero, Nat.zero_add]
  exact ⟨f0, f1, f2, f3, h.below (below_alloc _ _)⟩

set_option maxRecDepth 100000 in
set_option maxHeartbeats 3200000 in
theorem entriesOf_any (a : Option Addr) (c n : Nat) (es : List En) (w : World) (h : RdI w a es) (hn : n = es.length) (hl : es.length ≤ 1048576) (hs : SmallE es) :
    Calls Tryz.prog 24 #[.slice a n c] w fun r w' => ∃ av cv, r = .returned (.slice av n cv) ∧ GE w.heap.size w'.heap.size w' (.slice av n cv) es ∧ Below w.heap.size w w' := by
  subst hn
  obtain ⟨i1, ki, kz0, kz1, kz2⟩ := info_parts Tryz.infoEn
  have HA := hide h
  have HS := hide hs
  clear h hs
  go_enter Tryz.func24, Tryz.ntmps24
  go_wp2_with fail
  go_loopw [3, 8] (fun v i wr => ∃ j : Nat, j ≤ es.length ∧ i = .int .i64 j ∧ Hid (GE w.heap.size wr.heap.size wr v (es.take j)) ∧ Hid (Below w.heap.size w wr)) (fun _ i _ => es.length - (intOf i).toNat)
  case atStart => exact ⟨0, Nat.zero_le _, rfl, hide (GE.nil _ _ _), hide (Below.refl _ _)⟩
  case round =>
    obtain ⟨j, hj, rfl, HG, HW⟩ := hrel
    obtain ⟨lv, lc, hv⟩ := HG.out.shape
    rw [take_len hj] at hv
    subst hv
    have HA1 := hide (HA.out.below HW.out)
    have hsz := HW.out.size
    by_cases hlt : j < es.length
    · obtain ⟨b, off, e, x, cc, rfl, hb, he, c0, c1, c2, c3, hr⟩ := HA1.out.at hlt
      have HX := hide he
      have HRc := hide (hr.below (below_alloc wr (.cells #[.int .i64 e.size, .slice x e.chunks.length cc, .string (str e.path), .int .i64 e.kind] 51)))
      have hsm := HS.out e (List.mem_of_getElem? he)
      have BW2 := hide (below_alloc wr (.cells #[.int .i64 e.size, .slice x e.chunks.length cc, .string (str e.path), .int .i64 e.kind] 51))
      have F4 := hide (Four.new wr (.int .i64 e.size) (.slice x e.chunks.length cc) (.string (str e.path)) (.int .i64 e.kind) 51)
      clear he hr
      obtain ⟨rs, g1, g2, g3, g4, g5, g6⟩ := HG.out
      have G1 := hide g1
      have G2 := hide g2
      have G3 := hide g3
      have G4 := hide g4
      clear g1 g2 g3 g4 g5 g6 HG
      have hj1 : (es.take j).length = j := take_len hj
      have hm1 : j + 1 ≤ maxLen := by unfold maxLen; omega
      have hm1' : (j + 1) * 56 ≤ 140737488355328 := by omega
      have G2' : Hid (wr.ownsRow w.heap.size 27 4 (.slice lv j lc) j (rowR rs)) := by have := G2.out; rw [hj1] at this; exact this
      have HJ := hide hj1
      clear hj1
      go_wp2_with fail
      clear c0 c1 c2 c3
      have hbk : wr.heap.size < (wr.alloc (.cells #[.int .i64 e.size, .slice x e.chunks.length cc, .string (str e.path), .int .i64 e.kind] 51)).heap.size := F4.out.lt
      generalize wr.alloc (.cells #[.int .i64 e.size, .slice x e.chunks.length cc, .string (str e.path), .int .i64 e.kind] 51) = W2 at *
      obtain ⟨bk, hbke⟩ : ∃ bk, bk = wr.heap.size := ⟨_, rfl⟩
      rw [← hbke] at F4 hbk ⊢
      have HBK := hide hbke
      clear hbke
      have KC : Hid (∀ w' : World, Below W2.heap.size W2 w' → w'.cell? ⟨bk, 0, none⟩ = some (.int .i64 e.size) ∧ w'.cell? ⟨bk, 1, none⟩ = some (.slice x e.chunks.length cc) ∧ w'.cell? ⟨bk, 2, none⟩ = some (.string (str e.path)) ∧ w'.cell? ⟨bk, 3, none⟩ = some (.int .i64 e.kind)) := hide (fun w' hb' => F4.out.below hb')
      have KD : Hid (∀ w2 w3 : World, Below W2.heap.size W2 w2 → Kept (fun q => (Value.slice lv j lc).ownBlock = some q) w2 w3 → w3.cell? ⟨bk, 0, none⟩ = some (.int .i64 e.size) ∧ w3.cell? ⟨bk, 1, none⟩ = some (.slice x e.chunks.length cc) ∧ w3.cell? ⟨bk, 2, none⟩ = some (.string (str e.path)) ∧ w3.cell? ⟨bk, 3, none⟩ = some (.int .i64 e.kind)) := hide (fun w2 w3 hb' hk' => by
        have hn : ¬ (Value.slice lv j lc).ownBlock = some bk := fun hq => by have := (G2'.out.lt bk hq).2; have := HBK.out; omega
        have hlt2 : bk < w2.heap.size := Nat.lt_of_lt_of_le hbk hb'.size
        obtain ⟨q0, q1, q2, q3⟩ := KC.out w2 hb'
        exact ⟨(hk'.cell (p := ⟨bk, 0, none⟩) hlt2 hn).trans q0, (hk'.cell (p := ⟨bk, 1, none⟩) hlt2 hn).trans q1, (hk'.cell (p := ⟨bk, 2, none⟩) hlt2 hn).trans q2, (hk'.cell (p := ⟨bk, 3, none⟩) hlt2 hn).trans q3⟩)
      obtain ⟨f0, f1, f2, f3⟩ := F4.out
      go_region_held3 (fun w' => w'.cell? ⟨bk, 0, none⟩ = some (.int .i64 e.size) ∧ w'.cell? ⟨bk, 1, none⟩ = some (.slice x e.chunks.length cc) ∧ w'.cell? ⟨bk, 2, none⟩ = some (.string (str e.path)) ∧ w'.cell? ⟨bk, 3, none⟩ = some (.int .i64 e.kind)) (first | exact KC.out _ BB1.out | exact KC.out _ BB2.out | exact KD.out _ _ BB2.out K3.out | go_keep)
        ((first
          | (go_at_call 52; refine (clone_str _ _ (by rw [str_size]; omega)).mono ?_; rintro r w1 ⟨rfl, hb1⟩; have BB1 := hide ((Below.refl W2.heap.size W2).drew.trans hb1); clear hb1)
          | (go_at_call 53; refine (copyChunks_any _ _ _ _ _ (HRc.out.below BB1.out) hsm.2).mono ?_; rintro r w2 ⟨av2, cv2, rfl, ho2, hb2⟩; have O2 := hide ho2; have BB2 := hide (below_next BB1.out hb2); clear ho2 hb2)
          | (refine step_append_list (by rfl) (.tmp 12) (.tmp 25) 24 (by rfl) w.heap.size 27 i1 (.agg #[.string ⟨#[]⟩, .int .i64 0, .int .i64 0, .slice none 0 0]) 4 56 Tryz.underlying24 ki kz0 kz1 kz2 rfl (by decide) (.slice lv j lc) j (rowR rs) (by rfl) ((ownsRow_below G2'.out (below_next BW2.out BB2.out)).alloc _) ⟨w2.heap.size, 0, none⟩ 1 1 (cellsR ⟨e, av2, cv2⟩) (by rfl) (by rfl) (news_four rfl) (rowR_one [⟨e, av2, cv2⟩]) (j + 1) rfl hm1 hm1' (by have := BW2.out.size; have := BB2.out.size; simp; omega) ?_; intro av3 cv3 w3 hown3 hk3; have O3 := hide hown3; have K3 := hide (((Kept.refl (fun q => (Value.slice lv j lc).ownBlock = some q) w2).alloc _).trans hk3); clear hown3 hk3)))
      go_wp2_with fail
      go_roundw
      case rel =>
        have hs1 := BW2.out.size
        have hs2 := BB1.out.size
        have hs3 := BB2.out.size
        refine ⟨j + 1, by omega, by go_num, hide ?_, hide ?_⟩
        · rw [take_snoc_at HX.out]
          exact GE.push G1.out G2.out G3.out G4.out hsz (below_next BW2.out BB2.out) (ownsRow_mono O2.out (by omega)) (by rw [HJ.out]; exact O3.out) K3.out
        · exact (below_next HW.out (below_next BW2.out BB2.out)).trans (K3.out.below (by omega) (fun k hk hx => by have := (G2'.out.lt k hx).1; omega))
      case measure => simp [intOf]; omega
    · have hje : j = es.length := by omega
      have HE := hide (show es.take j = es from List.take_of_length_le (by omega))
      have HG2 : Hid (GE w.heap.size wr.heap.size wr (.slice lv j lc) es) := by have := HG.out; rw [HE.out] at this; exact this
      clear HG HE
      subst hje
      go_wp2_with fail
      go_ret
      exact ⟨_, _, rfl, HG2.out, HW.out⟩

end Go.Proofs.YtbdbhdgfifojoaaGreat
