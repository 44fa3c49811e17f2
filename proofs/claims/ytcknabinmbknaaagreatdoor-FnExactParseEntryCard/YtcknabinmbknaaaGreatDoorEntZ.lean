/-
  Contracts of the laws' marking helpers on lists of entries and on LayerResult.
-/
import Derived.Test.YtcknabinmbknaaaGreatDoorEntY
namespace Go.Proofs.YtcknabinmbknaaaGreatDoor
open Go.RowKit Go.Maps
set_option linter.unusedVariables false

set_option maxRecDepth 100000 in
set_option maxHeartbeats 1600000 in
theorem markEntryS_any (B T : Nat) (a : Option Addr) (c n : Nat) (es : List En) (k : Nat) (w : World) (h : GE B T w (.slice a n c) es) (hn : n = es.length) (hk0 : 0 < k) (hk1 : k ≤ 1048576) (hl : es.length ≤ 1048576) (hb : bulkE es ≤ 8388608) (hT : T ≤ w.heap.size) :
    Calls Tryz.prog 49 #[.slice a n c, .int .i64 k] w fun e w' => e = .returned (.int .i64 ((k : Int) + (bulkE es : Int))) ∧ GE B T w' (.slice a n c) (markEs k es) ∧ Kept (fun b => B ≤ b ∧ b < T) w w' := by
  subst hn
  have HH := hide h
  clear h
  go_enter Tryz.func49, Tryz.ntmps49
  go_wp2_with fail
  go_loopw [1, 5] (fun q i wr => ∃ j : Nat, j ≤ es.length ∧ i = .int .i64 j ∧ q = .int .i64 ((k : Int) + (bulkE (es.take j) : Int)) ∧ Hid (GE B T wr (.slice a es.length c) (mixE k es j)) ∧ Hid (Kept (fun b => B ≤ b ∧ b < T) w wr)) (fun _ i _ => es.length - (intOf i).toNat)
  case atStart => exact ⟨0, Nat.zero_le _, rfl, by simp [bulkE], hide (by simpa [mixE, markEs] using HH.out), hide (Kept.refl _ _)⟩
  case round =>
    obtain ⟨j, hj, rfl, rfl, HG, HK⟩ := hrel
    by_cases hlt : j < es.length
    · have he : es[j]? = some es[j] := List.getElem?_eq_getElem hlt
      generalize es[j] = e at he
      have hbt := bulk_take he
      have hble := bulk_le es (j + 1)
      have HST := hide (mixE_step (k := k) he)
      have HAT := hide (mixE_at (k := k) he)
      have HX := hide he
      have HBT := hide hbt
      obtain ⟨m, hm⟩ : ∃ m, m = k + bulkE (es.take j) := ⟨_, rfl⟩
      have hm' : (k : Int) + (bulkE (es.take j) : Int) = (m : Int) := by omega
      have hcl : e.chunks.length ≤ 8388608 := by omega
      have hm1 : m ≤ 16777216 := by omega
      have hm0 : 0 < m := by omega
      rw [hm'] at *
      have HM := hide hm
      have HM' := hide hm'
      rw [← hm] at HST
      clear hm hm' he hbt hble
      go_wp2_with fail
      refine (markText_any m _ hm0 (by omega)).mono ?_
      rintro r w1 ⟨rfl, hb1⟩
      have HB1 := hide hb1
      have HG1 := hide (HG.out.below hb1)
      clear hb1
      obtain ⟨G, x, y, rfl, hg1, hg2, c0, c1, c2, c3, hf, ho, hx, hback⟩ := HG1.out.open HAT.out
      have f0 := hf (j * 4)
      have f1 := hf (j * 4 + 1)
      have f2 := hf (j * 4 + 2)
      have HO := hide ho
      have HXB := hide hx
      have HBK := hide hback
      clear hf ho hx hback
      have d3 : ∀ u0 u1 u2, (((w1.setCell ⟨G, j * 4, none⟩ u0).setCell ⟨G, j * 4 + 1, none⟩ u1).setCell ⟨G, j * 4 + 2, none⟩ u2).cell? ⟨G, j * 4 + 3, none⟩ = some (.slice x e.chunks.length y) := fun u0 u1 u2 => (cell_set_other (by simp)).trans ((cell_set_other (by simp)).trans ((cell_set_other (by simp)).trans c3))
      have OK : Hid (∀ u0 u1 u2, Own .i64 (((w1.setCell ⟨G, j * 4, none⟩ u0).setCell ⟨G, j * 4 + 1, none⟩ u1).setCell ⟨G, j * 4 + 2, none⟩ u2) x e.chunks) := fun u0 u1 u2 => HO.out.kept (Kept.setCell (S := fun b => b = G) (p := ⟨G, j * 4 + 2, none⟩) (Kept.two _ _ _ _ _ _) (fun _ => rfl) u2) (fun b hb e => (HXB.out b hb).2.2 e)
      have HE1 := hide (show (⟨markT m, (m : Int) + 1, (m : Int) + 1 + 1, marks64 ((m : Int) + 1 + 1 + 1) e.chunks.length⟩ : En) = markE1 m e from by
        rw [markE1, show (m : Int) + 1 + 1 = (m : Int) + 2 by omega, show (m : Int) + 2 + 1 = (m : Int) + 3 by omega])
      go_wp2_with fail
      refine (markInt64S_any x y e.chunks _ _ (OK.out _ _ _) (by omega) (by omega) (by omega)).mono ?_
      rintro r w2 ⟨rfl, ho2, hk2, hs2⟩
      have HG2 := hide (HBK.out ⟨markT m, (m : Int) + 1, (m : Int) + 1 + 1, marks64 ((m : Int) + 1 + 1 + 1) e.chunks.length⟩ w2 (marks64_length _ _) ho2 hk2 hs2)
      have HK2 := hide ((HK.out.trans (Kept.of_below HB1.out)).trans (Kept.trans (Kept.setCell (p := ⟨G, j * 4 + 2, none⟩) (Kept.setCell (p := ⟨G, j * 4 + 1, none⟩) (Kept.setCell (p := ⟨G, j * 4, none⟩) (Kept.refl _ _) (fun _ => ⟨hg1, hg2⟩) _) (fun _ => ⟨hg1, hg2⟩) _) (fun _ => ⟨hg1, hg2⟩) _) (hk2.mono (fun b _ hS => ⟨(HXB.out b hS).1, (HXB.out b hS).2.1⟩))))
      clear ho2 hk2 hs2 HBK HO OK HG1 HG c0 c1 c2 c3 d3 f0 f1 f2
      go_wp2_with fail
      go_roundw
      case rel =>
        have hbt := HBT.out
        have hmm := HM.out
        refine ⟨j + 1, by omega, by go_num, by rw [hbt]; go_num, hide ?_, HK2⟩
        have := HG2.out
        rw [HE1.out, HST.out] at this
        exact this
      case measure => simp [intOf]; omega
    · have hje : j = es.length := by omega
      have HE := hide (show mixE k es j = markEs k es ∧ es.take j = es from by
        have e1 : es.take j = es := List.take_of_length_le (by omega)
        refine ⟨?_, e1⟩
        rw [mixE, e1, List.drop_eq_nil_of_le (by omega), List.append_nil])
      clear hje
      rw [HE.out.2]
      go_wp2_with fail
      go_ret
      exact ⟨rfl, by have := HG.out; rw [HE.out.1] at this; exact this, HK.out⟩

set_option maxRecDepth 100000 in
set_option maxHeartbeats 1600000 in
theorem heldEntryS_any (a : Option Addr) (c n : Nat) (es : List En) (k : Nat) (w : World) (h : RdE w a (markEs k es)) (hn : n = es.length) (hk0 : 0 < k) (hk1 : k ≤ 1048576) (hl : es.length ≤ 1048576) (hb : bulkE es ≤ 8388608) :
    Calls Tryz.prog 50 #[.slice a n c, .int .i64 k] w fun e w' => e = .returned (.int .i64 ((k : Int) + (bulkE es : Int))) ∧ Below w.heap.size w w' := by
  subst hn
  have HH := hide h
  clear h
  go_enter Tryz.func50, Tryz.ntmps50
  go_wp2_with fail
  go_loopw [1, 5] (fun q i wr => ∃ j : Nat, j ≤ es.length ∧ i = .int .i64 j ∧ q = .int .i64 ((k : Int) + (bulkE (es.take j) : Int)) ∧ Hid (Below w.heap.size w wr)) (fun _ i _ => es.length - (intOf i).toNat)
  case atStart => exact ⟨0, Nat.zero_le _, rfl, by simp [bulkE], hide (Below.refl _ _)⟩
  case round =>
    obtain ⟨j, hj, rfl, rfl, HW⟩ := hrel
    by_cases hlt : j < es.length
    · have he : es[j]? = some es[j] := List.getElem?_eq_getElem hlt
      generalize es[j] = e at he
      have hbt := bulk_take he
      have hble := bulk_le es (j + 1)
      have hat := mark_at (k := k) he
      obtain ⟨m, hm⟩ : ∃ m, m = k + bulkE (es.take j) := ⟨_, rfl⟩
      rw [← hm] at hat
      have hm' : (k : Int) + (bulkE (es.take j) : Int) = (m : Int) := by omega
      have hcl : e.chunks.length ≤ 8388608 := by omega
      have hm1 : m ≤ 16777216 := by omega
      have hm0 : 0 < m := by omega
      obtain ⟨b, off, e', x, cc, rfl, hb', he', c0, c1, c2, c3, hr⟩ := (HH.out.below HW.out).at (k := j) (by rw [markEs_length]; exact hlt)
      have : e' = markE1 m e := Option.some.inj (he'.symm.trans hat)
      subst this
      have hlen : (markE1 m e).chunks.length = e.chunks.length := marks64_length _ _
      rw [hlen] at c3
      have hch : (markE1 m e).chunks = marks64 ((m : Int) + 1 + 1 + 1) e.chunks.length := by
        rw [show (m : Int) + 1 + 1 + 1 = (m : Int) + 3 by omega]; rfl
      rw [hch] at hr
      have c2' : wr.cell? ⟨b, off + j * 4 + 2, none⟩ = some (.int .i64 ((m : Int) + 1 + 1)) := by rw [c2]; show some (Value.int .i64 ((m : Int) + 2)) = _; rw [show (m : Int) + 1 + 1 = (m : Int) + 2 by omega]
      have c1' : wr.cell? ⟨b, off + j * 4 + 1, none⟩ = some (.int .i64 ((m : Int) + 1)) := c1
      have c0' : wr.cell? ⟨b, off + j * 4, none⟩ = some (.string (str (markT m))) := c0
      have HR := hide hr
      have HBT := hide hbt
      have HM := hide hm
      rw [hm'] at *
      clear c0 c1 c2 hlen hch hr he' hat hm hm' he hbt hble
      have KC : Hid (∀ w' : World, Below wr.heap.size wr w' → w'.cell? ⟨b, off + j * 4, none⟩ = some (.string (str (markT m))) ∧ w'.cell? ⟨b, off + j * 4 + 1, none⟩ = some (.int .i64 ((m : Int) + 1)) ∧ w'.cell? ⟨b, off + j * 4 + 2, none⟩ = some (.int .i64 ((m : Int) + 1 + 1)) ∧ w'.cell? ⟨b, off + j * 4 + 3, none⟩ = some (.slice x e.chunks.length cc)) := hide (fun w' hb => ⟨(hb.cell (p := ⟨b, off + j * 4, none⟩) hb').trans c0', (hb.cell (p := ⟨b, off + j * 4 + 1, none⟩) hb').trans c1', (hb.cell (p := ⟨b, off + j * 4 + 2, none⟩) hb').trans c2', (hb.cell (p := ⟨b, off + j * 4 + 3, none⟩) hb').trans c3⟩)
      go_wp2_with fail
      go_region_held3 (fun w' => w'.cell? ⟨b, off + j * 4, none⟩ = some (.string (str (markT m))) ∧ w'.cell? ⟨b, off + j * 4 + 1, none⟩ = some (.int .i64 ((m : Int) + 1)) ∧ w'.cell? ⟨b, off + j * 4 + 2, none⟩ = some (.int .i64 ((m : Int) + 1 + 1)) ∧ w'.cell? ⟨b, off + j * 4 + 3, none⟩ = some (.slice x e.chunks.length cc)) (first | exact KC.out _ BB1.out | go_keep)
        ((first
          | (go_at_call 84; refine (markText_any m _ hm0 (by omega)).mono ?_; rintro r w1 ⟨rfl, hb1⟩; have BB1 := hide ((Below.refl wr.heap.size wr).drew.trans hb1); clear hb1)))
      obtain ⟨d0, d1, d2, d3⟩ := KC.out _ BB1.out
      clear c0' c1' c2' c3
      go_wp2_with fail
      refine (heldInt64S_any x cc e.chunks.length _ _ (HR.out.below BB1.out) (by omega) (by omega) (by omega)).mono ?_
      rintro r w2 ⟨rfl, rfl⟩
      go_wp2_with fail
      go_roundw
      case rel =>
        have hbt := HBT.out
        have hmm := HM.out
        exact ⟨j + 1, by omega, by go_num, by rw [hbt]; go_num, hide (below_next HW.out BB1.out)⟩
      case measure => simp [intOf]; omega
    · have HE := hide (show es.take j = es from List.take_of_length_le (by omega))
      rw [HE.out]
      go_wp2_with fail
      go_ret
      exact ⟨rfl, HW.out⟩

set_option maxHeartbeats 400000 in
theorem markLayerResult_any (q : Int) (B T : Nat) (a : Option Addr) (c n : Nat) (es : List En) (w : World) (h : GE B T w (.slice a n c) es) (hn : n = es.length) (hl : es.length ≤ 1048576) (hb : bulkE es ≤ 8388608) (hT : T ≤ w.heap.size) :
    Calls Tryz.prog 19 #[.agg #[.int .i64 q, .slice a n c], .int .i64 1] w fun e w' => e = .returned (.int .i64 ((1 : Int) + (bulkE es : Int))) ∧ GE B T w' (.slice a n c) (markEs 1 es) ∧ Kept (fun b => B ≤ b ∧ b < T) w w' := by
  have HG := hide h
  have HN := hide hn
  clear h hn
  go_enter Tryz.func19, Tryz.ntmps19
  go_wp2_with fail
  refine (markEntryS_any B T a c n es 1 _ (HG.out.below (below_alloc _ _)) HN.out (by decide) (by decide) hl hb (by simp; omega)).mono ?_
  rintro e w1 ⟨rfl, g1, k1⟩
  have G1 := hide g1
  have K1 := hide k1
  clear g1 k1
  go_wp2_with fail
  go_ret
  exact ⟨rfl, G1.out, ((Kept.refl _ _).alloc _).trans K1.out⟩

set_option maxHeartbeats 400000 in
theorem heldLayerResult_any (q : Int) (a : Option Addr) (c n : Nat) (es : List En) (w : World) (h : RdE w a (markEs 1 es)) (hn : n = es.length) (hl : es.length ≤ 1048576) (hb : bulkE es ≤ 8388608) :
    Calls Tryz.prog 20 #[.agg #[.int .i64 q, .slice a n c], .int .i64 1] w fun e w' => e = .returned (.int .i64 ((1 : Int) + (bulkE es : Int))) ∧ Below w.heap.size w w' := by
  have HG := hide h
  have HN := hide hn
  clear h hn
  have hk2 : ¬ ((1 : Int) + (bulkE es : Int)) < 0 := by omega
  go_enter Tryz.func20, Tryz.ntmps20
  go_wp2_with fail
  refine (heldEntryS_any a c n es 1 _ (HG.out.below (below_alloc _ _)) HN.out (by decide) (by decide) hl hb).mono ?_
  rintro e w1 ⟨rfl, b1⟩
  have B1 := hide (below_next (below_alloc _ _) b1)
  clear b1
  go_wp2_with fail
  go_ret
  exact ⟨rfl, B1.out⟩

end Go.Proofs.YtcknabinmbknaaaGreatDoor
