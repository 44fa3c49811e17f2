/-
  Texts put together: EntY EntZ Hex Parse HexF TxtL ManL CutG AppL ManP ManW ManQ.
-/
import Derived.Test.YtcknabinmbknaaaGreatDoorJ1
import Derived.Lib.Bytealg
import Derived.Lib.IndexLaws
import Derived.Maps.AppendAt
import Derived.Deep.RegionHeld3
namespace Go.Proofs.YtcknabinmbknaaaGreatDoor
open Go.RowKit Go.Maps
set_option linter.unusedVariables false

set_option maxRecDepth 100000 in
set_option maxHeartbeats 1600000 in
theorem eqEntryS_same (a b : Option Addr) (ca cb n : Nat) (es : List En) (w : World) (ha : RdE w a es) (hb : RdE w b es) (hn : n = es.length) (hl : es.length ≤ 1048576) (hs : ∀ e ∈ es, e.chunks.length ≤ 1048576) :
    Calls Tryz.prog 48 #[.slice a n ca, .slice b n cb] w fun e w' => e = .returned (.bool true) ∧ Below w.heap.size w w' := by
  subst hn
  have hne : ((es.length : Int) != (es.length : Int)) = false := by simp
  have HA := hide ha
  have HB := hide hb
  have HS := hide hs
  clear ha hb hs
  go_enter Tryz.func48, Tryz.ntmps48
  go_wp2_with fail
  go_loopw [5] (fun i wr => ∃ k : Nat, k ≤ es.length ∧ i = .int .i64 k ∧ Hid (Below w.heap.size w wr)) (fun i _ => es.length - (intOf i).toNat)
  case atStart => exact ⟨0, Nat.zero_le _, rfl, hide (Below.refl _ _)⟩
  case round =>
    obtain ⟨k, hk, rfl, HW⟩ := hrel
    by_cases hlt : k < es.length
    · obtain ⟨b1, o1, e, x1, c1, rfl, hb1, he, p0, p1, p2, p3, r1⟩ := (HA.out.below HW.out).at hlt
      obtain ⟨b2, o2, e', x2, c2, rfl, hb2, he', q0, q1, q2, q3, r2⟩ := (HB.out.below HW.out).at hlt
      have : e' = e := Option.some.inj (he'.symm.trans he)
      subst this
      have hcl := HS.out e' (List.mem_of_getElem? he)
      have R1 := hide r1
      have R2 := hide r2
      clear he he' r1 r2
      have KC : Hid (∀ w' : World, Below wr.heap.size wr w' → (w'.cell? ⟨b1, o1 + k * 4, none⟩ = some (.string (str e'.path)) ∧ w'.cell? ⟨b1, o1 + k * 4 + 1, none⟩ = some (.int .i64 e'.kind) ∧ w'.cell? ⟨b1, o1 + k * 4 + 2, none⟩ = some (.int .i64 e'.size) ∧ w'.cell? ⟨b1, o1 + k * 4 + 3, none⟩ = some (.slice x1 e'.chunks.length c1)) ∧ w'.cell? ⟨b2, o2 + k * 4, none⟩ = some (.string (str e'.path)) ∧ w'.cell? ⟨b2, o2 + k * 4 + 1, none⟩ = some (.int .i64 e'.kind) ∧ w'.cell? ⟨b2, o2 + k * 4 + 2, none⟩ = some (.int .i64 e'.size) ∧ w'.cell? ⟨b2, o2 + k * 4 + 3, none⟩ = some (.slice x2 e'.chunks.length c2)) := hide (fun w' hb => ⟨⟨(hb.cell (p := ⟨b1, o1 + k * 4, none⟩) hb1).trans p0, (hb.cell (p := ⟨b1, o1 + k * 4 + 1, none⟩) hb1).trans p1, (hb.cell (p := ⟨b1, o1 + k * 4 + 2, none⟩) hb1).trans p2, (hb.cell (p := ⟨b1, o1 + k * 4 + 3, none⟩) hb1).trans p3⟩, (hb.cell (p := ⟨b2, o2 + k * 4, none⟩) hb2).trans q0, (hb.cell (p := ⟨b2, o2 + k * 4 + 1, none⟩) hb2).trans q1, (hb.cell (p := ⟨b2, o2 + k * 4 + 2, none⟩) hb2).trans q2, (hb.cell (p := ⟨b2, o2 + k * 4 + 3, none⟩) hb2).trans q3⟩)
      go_wp2_with fail
      go_region_held3 (fun w' => (w'.cell? ⟨b1, o1 + k * 4, none⟩ = some (.string (str e'.path)) ∧ w'.cell? ⟨b1, o1 + k * 4 + 1, none⟩ = some (.int .i64 e'.kind) ∧ w'.cell? ⟨b1, o1 + k * 4 + 2, none⟩ = some (.int .i64 e'.size) ∧ w'.cell? ⟨b1, o1 + k * 4 + 3, none⟩ = some (.slice x1 e'.chunks.length c1)) ∧ w'.cell? ⟨b2, o2 + k * 4, none⟩ = some (.string (str e'.path)) ∧ w'.cell? ⟨b2, o2 + k * 4 + 1, none⟩ = some (.int .i64 e'.kind) ∧ w'.cell? ⟨b2, o2 + k * 4 + 2, none⟩ = some (.int .i64 e'.size) ∧ w'.cell? ⟨b2, o2 + k * 4 + 3, none⟩ = some (.slice x2 e'.chunks.length c2)) (first | exact KC.out _ BB8.out | go_keep)
        ((first
          | (go_at_call 83; refine (eqEntry_same _ _ _ _ _ _ _ e'.chunks _ (R1.out.below (Below.refl _ _).drew) (R2.out.below (Below.refl _ _).drew) hcl).mono ?_; rintro r w8 ⟨rfl, b8⟩; have BB8 := hide ((Below.refl wr.heap.size wr).drew.trans b8); clear b8)))
      clear p0 p1 p2 p3 q0 q1 q2 q3
      go_wp2_with fail
      go_roundw
      case rel => exact ⟨k + 1, by omega, by go_num, hide (below_next HW.out BB8.out)⟩
      case measure => simp [intOf]; omega
    · go_wp2_with fail
      go_ret
      exact ⟨rfl, HW.out⟩

set_option maxHeartbeats 400000 in
theorem eqLayerResult_same (q : Int) (a b : Option Addr) (ca cb n : Nat) (es : List En) (w : World) (ha : RdE w a es) (hb : RdE w b es) (hn : n = es.length) (hl : es.length ≤ 1048576) (hs : ∀ e ∈ es, e.chunks.length ≤ 1048576) :
    Calls Tryz.prog 18 #[.agg #[.int .i64 q, .slice a n ca], .agg #[.int .i64 q, .slice b n cb]] w fun e w' => e = .returned (.bool true) ∧ Below w.heap.size w w' := by
  have HA := hide ha
  have HB := hide hb
  have HP := hide hs
  have HN := hide hn
  clear ha hb hs hn
  have HBB := hide (below_next (below_alloc w (.cells #[.int .i64 q, .slice a n ca] 27)) (below_alloc _ (.cells #[.int .i64 q, .slice b n cb] 27)))
  go_enter Tryz.func18, Tryz.ntmps18
  go_wp2_with fail
  refine (eqEntryS_same a b ca cb n es _ (HA.out.below HBB.out) (HB.out.below HBB.out) HN.out hl HP.out).mono ?_
  rintro e w1 ⟨rfl, b1⟩
  have B2 := hide (below_next HBB.out b1)
  clear b1 HBB
  go_wp2_with fail
  go_ret
  exact ⟨rfl, B2.out⟩

/-- What is written into an entry from k on. -/
def markE1 (k : Nat) (e : En) : En := ⟨markT k, (k : Int) + 1, (k : Int) + 2, marks64 ((k : Int) + 3) e.chunks.length⟩
def markEs : Nat → List En → List En
  | _, [] => []
  | k, e :: es => markE1 k e :: markEs (k + 3 + e.chunks.length) es
/-- How many numbers that takes. -/
def bulkE : List En → Nat
  | [] => 0
  | e :: es => 3 + e.chunks.length + bulkE es
theorem bulkE_append : ∀ (a b : List En), bulkE (a ++ b) = bulkE a + bulkE b
  | [], b => by simp [bulkE]
  | x :: a, b => by simp only [List.cons_append, bulkE, bulkE_append a b]; omega
theorem markEs_append : ∀ (k : Nat) (a b : List En), markEs k (a ++ b) = markEs k a ++ markEs (k + bulkE a) b
  | k, [], b => by simp [markEs, bulkE]
  | k, x :: a, b => by
    simp only [List.cons_append, markEs, bulkE, markEs_append _ a b]
    rw [show k + 3 + x.chunks.length + bulkE a = k + (3 + x.chunks.length + bulkE a) by omega]
theorem markEs_length : ∀ (k : Nat) (es : List En), (markEs k es).length = es.length
  | _, [] => rfl
  | k, e :: es => by simp [markEs, markEs_length]
theorem bulk_take {es : List En} {j : Nat} {e : En} (h : es[j]? = some e) : bulkE (es.take (j + 1)) = bulkE (es.take j) + 3 + e.chunks.length := by
  rw [take_snoc_at h, bulkE_append]; simp only [bulkE]; omega
theorem bulk_le (es : List En) (j : Nat) : bulkE (es.take j) ≤ bulkE es := by
  have := bulkE_append (es.take j) (es.drop j)
  rw [List.take_append_drop] at this
  omega
theorem mark_at {k : Nat} {es : List En} {j : Nat} {e : En} (h : es[j]? = some e) : (markEs k es)[j]? = some (markE1 (k + bulkE (es.take j)) e) := by
  have hj := (List.getElem?_eq_some_iff.1 h).1
  have e1 : es = es.take j ++ e :: es.drop (j + 1) := by rw [← drop_at h, List.take_append_drop]
  rw [show (markEs k es)[j]? = (markEs k (es.take j ++ e :: es.drop (j + 1)))[j]? by rw [← e1], markEs_append, List.getElem?_append_right (by rw [markEs_length, List.length_take]; omega), markEs_length, List.length_take]
  rw [show j - min j es.length = 0 by omega]
  rfl
/-- The first j are written. -/
def mixE (k : Nat) (es : List En) (j : Nat) : List En := markEs k (es.take j) ++ es.drop j
theorem mixE_length (k : Nat) (es : List En) (j : Nat) : (mixE k es j).length = es.length := by
  rw [mixE, List.length_append, markEs_length, List.length_take, List.length_drop]; omega
theorem mixE_at {k : Nat} {es : List En} {j : Nat} {e : En} (h : es[j]? = some e) : (mixE k es j)[j]? = some e := by
  have hj := (List.getElem?_eq_some_iff.1 h).1
  rw [mixE, List.getElem?_append_right (by rw [markEs_length, List.length_take]; omega), markEs_length, List.length_take, drop_at h]
  rw [show j - min j es.length = 0 by omega]
  rfl
theorem mixE_step {k : Nat} {es : List En} {j : Nat} {e : En} (h : es[j]? = some e) : (mixE k es j).set j (markE1 (k + bulkE (es.take j)) e) = mixE k es (j + 1) := by
  have hj := (List.getElem?_eq_some_iff.1 h).1
  rw [mixE, mixE, take_snoc_at h, markEs_append, drop_at h]
  have hl : (markEs k (es.take j)).length = j := by rw [markEs_length, List.length_take]; omega
  rw [List.set_append_right _ _ (by omega), hl, Nat.sub_self]
  simp [markEs]

theorem rowR_set3 : ∀ (rs : List Rw) (j : Nat) (r : Rw) (e' : En), rs[j]? = some r → e'.chunks.length = r.e.chunks.length →
    (((rowR rs).set (j * 4) (.string (str e'.path))).set (j * 4 + 1) (.int .i64 e'.kind)).set (j * 4 + 2) (.int .i64 e'.size) = rowR (rs.set j ⟨e', r.a, r.c⟩)
  | [], j, r, e', h, _ => by simp at h
  | x :: rs, 0, r, e', h, hl => by
    simp only [List.getElem?_cons_zero, Option.some.injEq] at h
    subst h
    simp [rowR, cellsR, hl]
  | x :: rs, j + 1, r, e', h, hl => by
    have ih := rowR_set3 rs j r e' (by simpa using h) hl
    have e1 : rowR (x :: rs) = cellsR x ++ rowR rs := rfl
    have e2 : rowR ((x :: rs).set (j + 1) ⟨e', r.a, r.c⟩) = cellsR x ++ rowR (rs.set j ⟨e', r.a, r.c⟩) := rfl
    have hx : (cellsR x).length = 4 := rfl
    rw [e1, e2, ← ih, List.set_append_right _ _ (by omega), List.set_append_right _ _ (by omega), List.set_append_right _ _ (by omega), hx]
    rw [show (j + 1) * 4 - 4 = j * 4 by omega, show (j + 1) * 4 + 1 - 4 = j * 4 + 1 by omega, show (j + 1) * 4 + 2 - 4 = j * 4 + 2 by omega]

/-- Entry j is at hand: its cells, its chunks, and the way back behind three stores and a writing of its chunks. -/
theorem GE.open {B T : Nat} {w : World} {a : Option Addr} {n c : Nat} {es : List En} {j : Nat} {e : En} (h : GE B T w (.slice a n c) es) (he : es[j]? = some e) :
    ∃ (G : Nat) (x : Option Addr) (y : Nat), a = some ⟨G, 0, none⟩ ∧ B ≤ G ∧ G < T ∧ w.cell? ⟨G, j * 4, none⟩ = some (.string (str e.path)) ∧ w.cell? ⟨G, j * 4 + 1, none⟩ = some (.int .i64 e.kind) ∧ w.cell? ⟨G, j * 4 + 2, none⟩ = some (.int .i64 e.size) ∧ w.cell? ⟨G, j * 4 + 3, none⟩ = some (.slice x e.chunks.length y) ∧
      (∀ i, w.frozen? ⟨G, i, none⟩ = false) ∧ Own .i64 w x e.chunks ∧ (∀ b, blkOf x b → B ≤ b ∧ b < T ∧ b ≠ G) ∧
      ∀ (e' : En) (w2 : World), e'.chunks.length = e.chunks.length → Own .i64 w2 x e'.chunks → Kept (blkOf x) (((w.setCell ⟨G, j * 4, none⟩ (.string (str e'.path))).setCell ⟨G, j * 4 + 1, none⟩ (.int .i64 e'.kind)).setCell ⟨G, j * 4 + 2, none⟩ (.int .i64 e'.size)) w2 →
        SameShape (((w.setCell ⟨G, j * 4, none⟩ (.string (str e'.path))).setCell ⟨G, j * 4 + 1, none⟩ (.int .i64 e'.kind)).setCell ⟨G, j * 4 + 2, none⟩ (.int .i64 e'.size)) w2 →
        GE B T w2 (.slice a n c) (es.set j e') := by
  obtain ⟨rs, hrs, h1, h2, h3, h4, h5⟩ := h
  have hj := (List.getElem?_eq_some_iff.1 he).1
  have hl : rs.length = es.length := by rw [← hrs, List.length_map]
  obtain ⟨r, hr⟩ : ∃ r, rs[j]? = some r := ⟨rs[j]'(by omega), List.getElem?_eq_getElem (by omega)⟩
  have hre : r.e = e := by
    have : (rs.map Rw.e)[j]? = some r.e := by rw [List.getElem?_map, hr]; rfl
    rw [hrs, he] at this
    exact (Option.some.inj this).symm
  rcases h1.2 with ⟨_, h0⟩ | ⟨G, cap, cur, h', hb, hh, hnc, hcm, hcs, htake⟩
  · omega
  · simp only [Value.slice.injEq] at h'
    obtain ⟨rfl, rfl, rfl⟩ := h'
    have hc := fun q hq => (h1.cellAt (j * 4 + q) (by omega)).trans (rowR_get rs j q r hr hq)
    have hm := List.mem_of_getElem? hr
    have hne : ∀ b, blkOf r.a b → b ≠ G := fun b hb e => ownsRow_apart h1 (h2 r hm) (by decide) (by subst e; rfl) (block_own hb)
    refine ⟨G, r.a, r.c, rfl, hb, h5 G rfl, ?_, ?_, ?_, ?_, fun i => h1.frozenAt i, ?_, fun b hb => ⟨((h2 r hm).lt b (block_own hb)).1, h4 r hm b hb, hne b hb⟩, ?_⟩
    · have := hc 0 (by decide); rw [← hre]; first | (simp [cellsR]; done) | (simpa [cellsR] using this)
    · have := hc 1 (by decide); rw [← hre]; first | (simp [cellsR]; done) | (simpa [cellsR] using this)
    · have := hc 2 (by decide); rw [← hre]; first | (simp [cellsR]; done) | (simpa [cellsR] using this)
    · have := hc 3 (by decide); rw [← hre]; first | (simp [cellsR]; done) | (simpa [cellsR] using this)
    · rw [← hre]; exact ownsRow_own (h2 r hm) rfl
    · intro e' w2 hlen ho hk hs
      have hlen' : e'.chunks.length = r.e.chunks.length := by rw [hre]; exact hlen
      have s1 := (((h1.stored (j * 4) (.string (str e'.path))).1.stored (j * 4 + 1) (.int .i64 e'.kind)).1.stored (j * 4 + 2) (.int .i64 e'.size)).1
      rw [rowR_set3 rs j r e' hr hlen'] at s1
      have hmapa : (rs.set j ⟨e', r.a, r.c⟩).map Rw.a = rs.map Rw.a := by
        rw [List.map_set]
        apply List.ext_getElem?
        intro i
        by_cases hi : i = j
        · subst hi; rw [List.getElem?_set_self (by simp; omega), List.getElem?_map, hr]; rfl
        · rw [List.getElem?_set_ne (fun e => hi e.symm)]
      have hk1 : Kept (fun b => b = G) w (((w.setCell ⟨G, j * 4, none⟩ (.string (str e'.path))).setCell ⟨G, j * 4 + 1, none⟩ (.int .i64 e'.kind)).setCell ⟨G, j * 4 + 2, none⟩ (.int .i64 e'.size)) :=
        Kept.setCell (S := fun b => b = G) (p := ⟨G, j * 4 + 2, none⟩) (Kept.two _ _ _ _ _ _) (fun _ => rfl) _
      refine ⟨rs.set j ⟨e', r.a, r.c⟩, by rw [List.map_set, hrs], ?_, ?_, ?_, ?_, h5⟩
      · rw [List.length_set]
        exact ownsRow_kept s1 hk (fun b hb hS => hne b hS (by simpa [Value.ownBlock, eq_comm] using hb))
      · intro r0 hr0
        obtain ⟨i, hi⟩ := List.mem_iff_getElem?.1 hr0
        by_cases e : i = j
        · subst e
          rw [List.getElem?_set_self (by omega)] at hi
          simp only [Option.some.injEq] at hi
          subst hi
          have r1 : (((w.setCell ⟨G, i * 4, none⟩ (.string (str e'.path))).setCell ⟨G, i * 4 + 1, none⟩ (.int .i64 e'.kind)).setCell ⟨G, i * 4 + 2, none⟩ (.int .i64 e'.size)).ownsRow B 2 1 (.slice r.a r.e.chunks.length r.c) r.e.chunks.length (r.e.chunks.map (Value.int .i64)) :=
            ownsRow_kept (h2 r hm) hk1 (fun b hb e => ownsRow_apart h1 (h2 r hm) (by decide) (by subst e; rfl) hb)
          show w2.ownsRow B 2 1 (.slice r.a e'.chunks.length r.c) e'.chunks.length (e'.chunks.map (Value.int .i64))
          rw [hlen']
          rcases (h2 r hm).2 with ⟨h', h0⟩ | ⟨g, cap', cur', h', _⟩
          · simp only [Value.slice.injEq] at h'
            have e1 : e'.chunks = [] := List.eq_nil_of_length_eq_zero (by omega)
            rw [h'.1, h'.2.2, h0, e1]
            exact World.ownsRow_nil _ _ _ _
          · simp only [Value.slice.injEq, true_and] at h'
            obtain ⟨hA, hC⟩ := h'
            rw [hA] at r1 ho ⊢
            refine own_back r1 hs (by simp [hlen']) (fun t ht => ?_)
            obtain ⟨b, off, e1, hb, hc⟩ := ho (by intro e; rw [e] at hlen'; simp at hlen'; omega)
            simp only [Option.some.injEq, Addr.mk.injEq, and_true] at e1
            obtain ⟨rfl, rfl⟩ := e1
            have := (hc t (by omega)).1
            rw [Nat.zero_add] at this
            rw [this]
            have ht2 : t < e'.chunks.length := by omega
            simp [List.getD_eq_getElem?_getD, ht2]
        · rw [List.getElem?_set_ne (fun x => e x.symm)] at hi
          have hm0 := List.mem_of_getElem? hi
          have r1 := ownsRow_kept (h2 r0 hm0) hk1 (fun b hb e => ownsRow_apart h1 (h2 r0 hm0) (by decide) (by subst e; rfl) hb)
          refine ownsRow_kept r1 hk (fun b hb hS => ?_)
          have hi' := (List.getElem?_eq_some_iff.1 hi)
          have hj' := (List.getElem?_eq_some_iff.1 hr)
          have hb0 := own_block hb
          rcases Nat.lt_or_gt_of_ne e with hlt | hlt
          · have := List.pairwise_iff_getElem.1 h3 i j hi'.1 hj'.1 hlt b (by rw [hi'.2]; exact hb0)
            rw [hj'.2] at this
            exact this hS
          · have := List.pairwise_iff_getElem.1 h3 j i hj'.1 hi'.1 hlt b (by rw [hj'.2]; exact hS)
            rw [hi'.2] at this
            exact this hb0
      · have : (rs.map Rw.a).Pairwise (fun x y => ∀ g, x.map Addr.block = some g → y.map Addr.block ≠ some g) := List.pairwise_map.2 h3
        rw [← hmapa] at this
        exact List.pairwise_map.1 this
      · intro r0 hr0 g hg
        have : r0.a ∈ (rs.set j ⟨e', r.a, r.c⟩).map Rw.a := List.mem_map_of_mem hr0
        rw [hmapa] at this
        obtain ⟨r2, hr2, e2⟩ := List.mem_map.1 this
        exact h4 r2 hr2 g (by rw [e2]; exact hg)

end Go.Proofs.YtcknabinmbknaaaGreatDoor

namespace Go.Proofs.YtcknabinmbknaaaGreatDoor
open Go.RowKit Go.Maps
set_option linter.unusedVariables false

set_option maxRecDepth 100000 in
set_option maxHeartbeats 1600000 in
theorem markEntryS_any (B T : Nat) (a : Option Addr) (c n : Nat) (es : List En) (k : Nat) (w : World) (h : GE B T w (.slice a n c) es) (hn : n = es.length) (hk0 : 0 < k) (hk1 : k ≤ 1048576) (hl : es.length ≤ 1048576) (hb : bulkE es ≤ 8388608) (hT : T ≤ w.heap.size) :
    Calls Tryz.prog 49 #[.slice a n c, .int .i64 k] w fun e w' => e = .returned (.int .i64 ((k : Int) + (bulkE es : Int))) ∧ GE B T w' (.slice a n c) (markEs k es) ∧ Kept (fun b => B ≤ b ∧ b < T) w w' := by
  subst hn
  have HH := hide h
  clear h
  go_enter Tryz.func49, Tryz.ntmps49
  go_wp2_with fail
  go_loopw [1, 5] (fun q i wr => ∃ j : Nat, j ≤ es.length ∧ i = .int .i64 j ∧ q = .int .i64 ((k : Int) + (bulkE (es.take j) : Int)) ∧ Hid (GE B T wr (.slice a es.length c) (mixE k es j)) ∧ Hid (Kept (fun b => B ≤ b ∧ b < T) w wr)) (fun _ i _ => es.length - (intOf i).toNat)
  case atStart => exact ⟨0, Nat.zero_le _, rfl, by simp [bulkE], hide (by simpa [mixE, markEs] using HH.out), hide (Kept.refl _ _)⟩
  case round =>
    obtain ⟨j, hj, rfl, rfl, HG, HK⟩ := hrel
    by_cases hlt : j < es.length
    · have he : es[j]? = some es[j] := List.getElem?_eq_getElem hlt
      generalize es[j] = e at he
      have hbt := bulk_take he
      have hble := bulk_le es (j + 1)
      have HST := hide (mixE_step (k := k) he)
      have HAT := hide (mixE_at (k := k) he)
      have HX := hide he
      have HBT := hide hbt
      obtain ⟨m, hm⟩ : ∃ m, m = k + bulkE (es.take j) := ⟨_, rfl⟩
      have hm' : (k : Int) + (bulkE (es.take j) : Int) = (m : Int) := by omega
      have hcl : e.chunks.length ≤ 8388608 := by omega
      have hm1 : m ≤ 16777216 := by omega
      have hm0 : 0 < m := by omega
      rw [hm'] at *
      have HM := hide hm
      have HM' := hide hm'
      rw [← hm] at HST
      clear hm hm' he hbt hble
      go_wp2_with fail
      refine (markText_any m _ hm0 (by omega)).mono ?_
      rintro r w1 ⟨rfl, hb1⟩
      have HB1 := hide hb1
      have HG1 := hide (HG.out.below hb1)
      clear hb1
      obtain ⟨G, x, y, rfl, hg1, hg2, c0, c1, c2, c3, hf, ho, hx, hback⟩ := HG1.out.open HAT.out
      have f0 := hf (j * 4)
      have f1 := hf (j * 4 + 1)
      have f2 := hf (j * 4 + 2)
      have HO := hide ho
      have HXB := hide hx
      have HBK := hide hback
      clear hf ho hx hback
      have d3 : ∀ u0 u1 u2, (((w1.setCell ⟨G, j * 4, none⟩ u0).setCell ⟨G, j * 4 + 1, none⟩ u1).setCell ⟨G, j * 4 + 2, none⟩ u2).cell? ⟨G, j * 4 + 3, none⟩ = some (.slice x e.chunks.length y) := fun u0 u1 u2 => (cell_set_other (by simp)).trans ((cell_set_other (by simp)).trans ((cell_set_other (by simp)).trans c3))
      have OK : Hid (∀ u0 u1 u2, Own .i64 (((w1.setCell ⟨G, j * 4, none⟩ u0).setCell ⟨G, j * 4 + 1, none⟩ u1).setCell ⟨G, j * 4 + 2, none⟩ u2) x e.chunks) := fun u0 u1 u2 => HO.out.kept (Kept.setCell (S := fun b => b = G) (p := ⟨G, j * 4 + 2, none⟩) (Kept.two _ _ _ _ _ _) (fun _ => rfl) u2) (fun b hb e => (HXB.out b hb).2.2 e)
      have HE1 := hide (show (⟨markT m, (m : Int) + 1, (m : Int) + 1 + 1, marks64 ((m : Int) + 1 + 1 + 1) e.chunks.length⟩ : En) = markE1 m e from by
        rw [markE1, show (m : Int) + 1 + 1 = (m : Int) + 2 by omega, show (m : Int) + 2 + 1 = (m : Int) + 3 by omega])
      go_wp2_with fail
      refine (markInt64S_any x y e.chunks _ _ (OK.out _ _ _) (by omega) (by omega) (by omega)).mono ?_
      rintro r w2 ⟨rfl, ho2, hk2, hs2⟩
      have HG2 := hide (HBK.out ⟨markT m, (m : Int) + 1, (m : Int) + 1 + 1, marks64 ((m : Int) + 1 + 1 + 1) e.chunks.length⟩ w2 (marks64_length _ _) ho2 hk2 hs2)
      have HK2 := hide ((HK.out.trans (Kept.of_below HB1.out)).trans (Kept.trans (Kept.setCell (p := ⟨G, j * 4 + 2, none⟩) (Kept.setCell (p := ⟨G, j * 4 + 1, none⟩) (Kept.setCell (p := ⟨G, j * 4, none⟩) (Kept.refl _ _) (fun _ => ⟨hg1, hg2⟩) _) (fun _ => ⟨hg1, hg2⟩) _) (fun _ => ⟨hg1, hg2⟩) _) (hk2.mono (fun b _ hS => ⟨(HXB.out b hS).1, (HXB.out b hS).2.1⟩))))
      clear ho2 hk2 hs2 HBK HO OK HG1 HG c0 c1 c2 c3 d3 f0 f1 f2
      go_wp2_with fail
      go_roundw
      case rel =>
        have hbt := HBT.out
        have hmm := HM.out
        refine ⟨j + 1, by omega, by go_num, by rw [hbt]; go_num, hide ?_, HK2⟩
        have := HG2.out
        rw [HE1.out, HST.out] at this
        exact this
      case measure => simp [intOf]; omega
    · have hje : j = es.length := by omega
      have HE := hide (show mixE k es j = markEs k es ∧ es.take j = es from by
        have e1 : es.take j = es := List.take_of_length_le (by omega)
        refine ⟨?_, e1⟩
        rw [mixE, e1, List.drop_eq_nil_of_le (by omega), List.append_nil])
      clear hje
      rw [HE.out.2]
      go_wp2_with fail
      go_ret
      exact ⟨rfl, by have := HG.out; rw [HE.out.1] at this; exact this, HK.out⟩

set_option maxRecDepth 100000 in
set_option maxHeartbeats 1600000 in
theorem heldEntryS_any (a : Option Addr) (c n : Nat) (es : List En) (k : Nat) (w : World) (h : RdE w a (markEs k es)) (hn : n = es.length) (hk0 : 0 < k) (hk1 : k ≤ 1048576) (hl : es.length ≤ 1048576) (hb : bulkE es ≤ 8388608) :
    Calls Tryz.prog 50 #[.slice a n c, .int .i64 k] w fun e w' => e = .returned (.int .i64 ((k : Int) + (bulkE es : Int))) ∧ Below w.heap.size w w' := by
  subst hn
  have HH := hide h
  clear h
  go_enter Tryz.func50, Tryz.ntmps50
  go_wp2_with fail
  go_loopw [1, 5] (fun q i wr => ∃ j : Nat, j ≤ es.length ∧ i = .int .i64 j ∧ q = .int .i64 ((k : Int) + (bulkE (es.take j) : Int)) ∧ Hid (Below w.heap.size w wr)) (fun _ i _ => es.length - (intOf i).toNat)
  case atStart => exact ⟨0, Nat.zero_le _, rfl, by simp [bulkE], hide (Below.refl _ _)⟩
  case round =>
    obtain ⟨j, hj, rfl, rfl, HW⟩ := hrel
    by_cases hlt : j < es.length
    · have he : es[j]? = some es[j] := List.getElem?_eq_getElem hlt
      generalize es[j] = e at he
      have hbt := bulk_take he
      have hble := bulk_le es (j + 1)
      have hat := mark_at (k := k) he
      obtain ⟨m, hm⟩ : ∃ m, m = k + bulkE (es.take j) := ⟨_, rfl⟩
      rw [← hm] at hat
      have hm' : (k : Int) + (bulkE (es.take j) : Int) = (m : Int) := by omega
      have hcl : e.chunks.length ≤ 8388608 := by omega
      have hm1 : m ≤ 16777216 := by omega
      have hm0 : 0 < m := by omega
      obtain ⟨b, off, e', x, cc, rfl, hb', he', c0, c1, c2, c3, hr⟩ := (HH.out.below HW.out).at (k := j) (by rw [markEs_length]; exact hlt)
      have : e' = markE1 m e := Option.some.inj (he'.symm.trans hat)
      subst this
      have hlen : (markE1 m e).chunks.length = e.chunks.length := marks64_length _ _
      rw [hlen] at c3
      have hch : (markE1 m e).chunks = marks64 ((m : Int) + 1 + 1 + 1) e.chunks.length := by
        rw [show (m : Int) + 1 + 1 + 1 = (m : Int) + 3 by omega]; rfl
      rw [hch] at hr
      have c2' : wr.cell? ⟨b, off + j * 4 + 2, none⟩ = some (.int .i64 ((m : Int) + 1 + 1)) := by rw [c2]; show some (Value.int .i64 ((m : Int) + 2)) = _; rw [show (m : Int) + 1 + 1 = (m : Int) + 2 by omega]
      have c1' : wr.cell? ⟨b, off + j * 4 + 1, none⟩ = some (.int .i64 ((m : Int) + 1)) := c1
      have c0' : wr.cell? ⟨b, off + j * 4, none⟩ = some (.string (str (markT m))) := c0
      have HR := hide hr
      have HBT := hide hbt
      have HM := hide hm
      rw [hm'] at *
      clear c0 c1 c2 hlen hch hr he' hat hm hm' he hbt hble
      have KC : Hid (∀ w' : World, Below wr.heap.size wr w' → w'.cell? ⟨b, off + j * 4, none⟩ = some (.string (str (markT m))) ∧ w'.cell? ⟨b, off + j * 4 + 1, none⟩ = some (.int .i64 ((m : Int) + 1)) ∧ w'.cell? ⟨b, off + j * 4 + 2, none⟩ = some (.int .i64 ((m : Int) + 1 + 1)) ∧ w'.cell? ⟨b, off + j * 4 + 3, none⟩ = some (.slice x e.chunks.length cc)) := hide (fun w' hb => ⟨(hb.cell (p := ⟨b, off + j * 4, none⟩) hb').trans c0', (hb.cell (p := ⟨b, off + j * 4 + 1, none⟩) hb').trans c1', (hb.cell (p := ⟨b, off + j * 4 + 2, none⟩) hb').trans c2', (hb.cell (p := ⟨b, off + j * 4 + 3, none⟩) hb').trans c3⟩)
      go_wp2_with fail
      go_region_held3 (fun w' => w'.cell? ⟨b, off + j * 4, none⟩ = some (.string (str (markT m))) ∧ w'.cell? ⟨b, off + j * 4 + 1, none⟩ = some (.int .i64 ((m : Int) + 1)) ∧ w'.cell? ⟨b, off + j * 4 + 2, none⟩ = some (.int .i64 ((m : Int) + 1 + 1)) ∧ w'.cell? ⟨b, off + j * 4 + 3, none⟩ = some (.slice x e.chunks.length cc)) (first | exact KC.out _ BB1.out | go_keep)
        ((first
          | (go_at_call 84; refine (markText_any m _ hm0 (by omega)).mono ?_; rintro r w1 ⟨rfl, hb1⟩; have BB1 := hide ((Below.refl wr.heap.size wr).drew.trans hb1); clear hb1)))
      obtain ⟨d0, d1, d2, d3⟩ := KC.out _ BB1.out
      clear c0' c1' c2' c3
      go_wp2_with fail
      refine (heldInt64S_any x cc e.chunks.length _ _ (HR.out.below BB1.out) (by omega) (by omega) (by omega)).mono ?_
      rintro r w2 ⟨rfl, rfl⟩
      go_wp2_with fail
      go_roundw
      case rel =>
        have hbt := HBT.out
        have hmm := HM.out
        exact ⟨j + 1, by omega, by go_num, by rw [hbt]; go_num, hide (below_next HW.out BB1.out)⟩
      case measure => simp [intOf]; omega
    · have HE := hide (show es.take j = es from List.take_of_length_le (by omega))
      rw [HE.out]
      go_wp2_with fail
      go_ret
      exact ⟨rfl, HW.out⟩

set_option maxHeartbeats 400000 in
theorem markLayerResult_any (q : Int) (B T : Nat) (a : Option Addr) (c n : Nat) (es : List En) (w : World) (h : GE B T w (.slice a n c) es) (hn : n = es.length) (hl : es.length ≤ 1048576) (hb : bulkE es ≤ 8388608) (hT : T ≤ w.heap.size) :
    Calls Tryz.prog 19 #[.agg #[.int .i64 q, .slice a n c], .int .i64 1] w fun e w' => e = .returned (.int .i64 ((1 : Int) + (bulkE es : Int))) ∧ GE B T w' (.slice a n c) (markEs 1 es) ∧ Kept (fun b => B ≤ b ∧ b < T) w w' := by
  have HG := hide h
  have HN := hide hn
  clear h hn
  go_enter Tryz.func19, Tryz.ntmps19
  go_wp2_with fail
  refine (markEntryS_any B T a c n es 1 _ (HG.out.below (below_alloc _ _)) HN.out (by decide) (by decide) hl hb (by simp; omega)).mono ?_
  rintro e w1 ⟨rfl, g1, k1⟩
  have G1 := hide g1
  have K1 := hide k1
  clear g1 k1
  go_wp2_with fail
  go_ret
  exact ⟨rfl, G1.out, ((Kept.refl _ _).alloc _).trans K1.out⟩

set_option maxHeartbeats 400000 in
theorem heldLayerResult_any (q : Int) (a : Option Addr) (c n : Nat) (es : List En) (w : World) (h : RdE w a (markEs 1 es)) (hn : n = es.length) (hl : es.length ≤ 1048576) (hb : bulkE es ≤ 8388608) :
    Calls Tryz.prog 20 #[.agg #[.int .i64 q, .slice a n c], .int .i64 1] w fun e w' => e = .returned (.int .i64 ((1 : Int) + (bulkE es : Int))) ∧ Below w.heap.size w w' := by
  have HG := hide h
  have HN := hide hn
  clear h hn
  have hk2 : ¬ ((1 : Int) + (bulkE es : Int)) < 0 := by omega
  go_enter Tryz.func20, Tryz.ntmps20
  go_wp2_with fail
  refine (heldEntryS_any a c n es 1 _ (HG.out.below (below_alloc _ _)) HN.out (by decide) (by decide) hl hb).mono ?_
  rintro e w1 ⟨rfl, b1⟩
  have B1 := hide (below_next (below_alloc _ _) b1)
  clear b1
  go_wp2_with fail
  go_ret
  exact ⟨rfl, B1.out⟩

end Go.Proofs.YtcknabinmbknaaaGreatDoor

namespace Go.Proofs.YtcknabinmbknaaaGreatDoor
open Go.RowKit
set_option linter.unusedVariables false
set_option maxRecDepth 100000

def hexL : List Int := [48, 49, 50, 51, 52, 53, 54, 55, 56, 57, 97, 98, 99, 100, 101, 102]
/-- Digit i, the highest first. -/
def dg (n : Int) (i : Nat) : Int := n * (16 : Int) ^ i % 4294967296 / 268435456
def hexList (n : Int) : List Int := (List.range 8).map fun i => hexL.getD (dg n i).toNat 0
def hexText (n : Int) : ByteArray := strOfNums (hexList n)

theorem hexList_getD (n : Int) (i : Nat) (hi : i < 8) : (hexList n).getD i 0 = hexL.getD (dg n i).toNat 0 := by
  simp [hexList, List.getD_eq_getElem?_getD, hi]
theorem hex_at : ∀ (d : Nat) (h : d < (⟨#[48, 49, 50, 51, 52, 53, 54, 55, 56, 57, 97, 98, 99, 100, 101, 102]⟩ : ByteArray).size), (((⟨#[48, 49, 50, 51, 52, 53, 54, 55, 56, 57, 97, 98, 99, 100, 101, 102]⟩ : ByteArray)[d]'h).toNat : Int) = hexL.getD d 0 
  | 0, _ | 1, _ | 2, _ | 3, _ | 4, _ | 5, _ | 6, _ | 7, _ | 8, _ | 9, _ | 10, _ | 11, _ | 12, _ | 13, _ | 14, _ | 15, _ => rfl
  | d + 16, h => absurd (show d + 16 < 16 from h) (by omega)

theorem implIsDigest_yes (n : Int) (w : World) (h0 : 0 ≤ n) (h1 : n ≤ 4294967295) :
    Calls Tryz.prog 107 #[.int .i64 n] w fun e w' => e = .returned (.bool true) ∧ w' = w := by
  go_enter Tryz.func107, Tryz.ntmps107
  go_wp2
  go_ret
  exact ⟨rfl, rfl⟩

theorem implIsDigest_no (n : Int) (w : World) (h : n < 0 ∨ 4294967295 < n) :
    Calls Tryz.prog 107 #[.int .i64 n] w fun e w' => e = .returned (.bool false) ∧ w' = w := by
  rcases h with h | h
  · go_enter Tryz.func107, Tryz.ntmps107
    go_wp2
    go_ret
    exact ⟨rfl, rfl⟩
  · have h0 : 0 ≤ n := by omega
    have h1 : ¬ n ≤ 4294967295 := by omega
    go_enter Tryz.func107, Tryz.ntmps107
    go_wp2
    go_ret
    exact ⟨rfl, rfl⟩

theorem dg_step (n : Int) (k : Nat) : n * (16 : Int) ^ k % 4294967296 * 16 % 4294967296 = n * (16 : Int) ^ (k + 1) % 4294967296 := by
  rw [Int.pow_succ, ← Int.mul_assoc]
  generalize n * (16 : Int) ^ k = y
  omega
theorem dg_range (n : Int) (k : Nat) : 0 ≤ n * (16 : Int) ^ k % 4294967296 ∧ n * (16 : Int) ^ k % 4294967296 ≤ 4294967295 := by
  generalize n * (16 : Int) ^ k = y
  omega

theorem rowIs_zero8 (w : World) (t : TypeId) : (w.alloc (.cells #[.int .u8 0, .int .u8 0, .int .u8 0, .int .u8 0, .int .u8 0, .int .u8 0, .int .u8 0, .int .u8 0] t)).rowIs w.heap.size t 8 (fun _ => .int .u8 0) :=
  World.rowIs_alloc w _ t _ (fun i hi => by
    have h8 : i < 8 := hi
    match i, h8 with
    | 0, _ | 1, _ | 2, _ | 3, _ | 4, _ | 5, _ | 6, _ | 7, _ => rfl)

set_option maxHeartbeats 400000 in
theorem implHexText_ok (n : Int) (w : World) (h0 : 0 ≤ n) (h1 : n ≤ 4294967295) :
    Calls Tryz.prog 112 #[.int .i64 n] w fun e w' => e = .returned (.agg #[.int .i64 0, .string (hexText n)]) ∧ Below w.heap.size w w' := by
  go_enter Tryz.func112, Tryz.ntmps112
  go_wp2_with (go_at_call 107; refine (implIsDigest_yes _ _ h0 h1).mono ?_; rintro e w' ⟨rfl, rfl⟩)
  go_loopw [3, 5, 12] (fun h _ i wr => ∃ k : Nat, ∃ x : Int, k ≤ 8 ∧ i = .int .i64 k ∧ h = .int .u32 x ∧ x = n * (16 : Int) ^ k % 4294967296 ∧ wr.cell? ⟨w.heap.size, 0, none⟩ = some (.int .i64 0) ∧ wr.cell? ⟨w.heap.size, 1, none⟩ = some (.string ⟨#[]⟩) ∧ wr.frozen? ⟨w.heap.size, 0, none⟩ = false ∧ wr.frozen? ⟨w.heap.size, 1, none⟩ = false ∧ wr.rowIs (w.heap.size + 1) 157 8 (fun j => if j < k then .int .u8 ((hexList n).getD j 0) else .int .u8 0) ∧ Below w.heap.size w wr) (fun _ _ i _ => 8 - (intOf i).toNat)
  case atStart =>
    refine ⟨0, n, Nat.zero_le _, rfl, rfl, by simp; omega, by simp, by simp, by simp, by simp, ?_, ?_⟩
    · have := (rowIs_zero8 (w.alloc (Obj.cells #[Value.int IntKind.i64 0, Value.string ⟨#[]⟩] 35)) 157).congr (g := fun j => if j < 0 then .int .u8 ((hexList n).getD j 0) else .int .u8 0) (by simp)
      simpa using this
    · exact ((Below.refl _ _).alloc (Nat.le_refl _) _).alloc (by simp) _
  case round =>
    obtain ⟨k, x, hk, rfl, rfl, hxe, q0, q1, q2, q3, hrow, hbel⟩ := hrel
    have hx01 := dg_range n k
    rw [← hxe] at hx01
    by_cases hlt : k < 8
    · have hc0 := hrow.cell hlt
      rw [if_neg (by omega)] at hc0
      have hf := hrow.frozen k
      have HR := hide hrow
      have HB := hide hbel
      have HX := hide hxe
      clear hrow hbel hxe
      go_wp2
      go_roundw
      case rel =>
        refine ⟨k + 1, _, by omega, by go_num, rfl, by rw [← dg_step, ← HX.out], ?_, ?_, ?_, ?_, row_step2 (f := fun j => .int .u8 ((hexList n).getD j 0)) (z := fun _ => .int .u8 0) HR.out ?_, HB.out.setCell (by simp) _⟩
        · exact cell_set_far (by omega) q0
        · exact cell_set_far (by omega) q1
        · rw [World.frozen?_setCell]; exact q2
        · rw [World.frozen?_setCell]; exact q3
        · rw [hexList_getD n k hlt, hex_at]
          unfold dg
          rw [← HX.out]
      case measure => simp [intOf]; omega
    · have hconv := run_convert_bytes_arg (P := Tryz.prog) wr 22 5 Tryz.underlying22 Tryz.underlying5 (w.heap.size + 1) 0 8 8 (hexList n) (by simp [hexList]) (fun i hi => by rw [Nat.zero_add, hrow.cell hi, if_pos (by omega)]) 9 Tryz.underlying9
      have HR := hide hrow
      have HB := hide hbel
      have HX := hide hxe
      clear hrow hbel hxe
      go_wp2
      exact bodyPost_ret (v := .agg #[.int .i64 0, .string (hexText n)]) (by simp [results, Tryz.results112, go_sem, q0, q1, hexText]) rfl ⟨rfl, (HB.out.setCell (Nat.le_refl _) _).setCell (Nat.le_refl _) _⟩

set_option maxHeartbeats 400000 in
theorem implHexText_no (n : Int) (w : World) (h : n < 0 ∨ 4294967295 < n) :
    Calls Tryz.prog 112 #[.int .i64 n] w fun e w' => e = .returned (.agg #[.int .i64 3, .string ⟨#[]⟩]) ∧ Below w.heap.size w w' := by
  go_enter Tryz.func112, Tryz.ntmps112
  go_wp2_with (go_at_call 107; refine (implIsDigest_no _ _ h).mono ?_; rintro e w' ⟨rfl, rfl⟩)
  exact bodyPost_ret (v := .agg #[.int .i64 3, .string ⟨#[]⟩]) (by simp [results, Tryz.results112, go_sem]) rfl ⟨rfl, (Below.refl _ _).alloc (Nat.le_refl _) _⟩

theorem specl1Digest_yes (n : Int) (w : World) (h0 : 0 ≤ n) (h1 : n ≤ 4294967295) :
    Calls Tryz.prog 100 #[.int .i64 n] w fun e w' => e = .returned (.bool true) ∧ w' = w := by
  go_enter Tryz.func100, Tryz.ntmps100
  go_wp2
  go_ret
  exact ⟨rfl, rfl⟩

theorem specl1Digest_no (n : Int) (w : World) (h : n < 0 ∨ 4294967295 < n) :
    Calls Tryz.prog 100 #[.int .i64 n] w fun e w' => e = .returned (.bool false) ∧ w' = w := by
  rcases h with h | h
  · go_enter Tryz.func100, Tryz.ntmps100
    go_wp2
    go_ret
    exact ⟨rfl, rfl⟩
  · have h0 : 0 ≤ n := by omega
    have h1 : ¬ n ≤ 4294967295 := by omega
    go_enter Tryz.func100, Tryz.ntmps100
    go_wp2
    go_ret
    exact ⟨rfl, rfl⟩

theorem i64_and15 (n : Int) : bits .and .i64 n 15 = n % 16 := by
  have h15 : (BitVec.ofInt 64 15).toNat = 2 ^ 4 - 1 := by decide
  have key : (BitVec.ofInt 64 n &&& BitVec.ofInt 64 15).toNat = (n % ((2 ^ 64 : Nat) : Int)).toNat % 2 ^ 4 := by
    rw [BitVec.toNat_and, BitVec.toNat_ofInt, h15, Nat.and_two_pow_sub_one_eq_mod]
  show IntKind.i64.wrap ((BitVec.ofInt 64 n &&& BitVec.ofInt 64 15).toNat : Nat) = n % 16
  rw [key, IntKind.wrap_i64]
  omega

theorem dg0 (n : Int) (h0 : 0 ≤ n) (h1 : n ≤ 4294967295) : dg n 0 = n / 268435456 % 16 := by simp only [dg]; omega
theorem dg1 (n : Int) (h0 : 0 ≤ n) (h1 : n ≤ 4294967295) : dg n 1 = n / 16777216 % 16 := by simp only [dg]; omega
theorem dg2 (n : Int) (h0 : 0 ≤ n) (h1 : n ≤ 4294967295) : dg n 2 = n / 1048576 % 16 := by simp only [dg]; omega
theorem dg3 (n : Int) (h0 : 0 ≤ n) (h1 : n ≤ 4294967295) : dg n 3 = n / 65536 % 16 := by simp only [dg]; omega
theorem dg4 (n : Int) (h0 : 0 ≤ n) (h1 : n ≤ 4294967295) : dg n 4 = n / 4096 % 16 := by simp only [dg]; omega
theorem dg5 (n : Int) (h0 : 0 ≤ n) (h1 : n ≤ 4294967295) : dg n 5 = n / 256 % 16 := by simp only [dg]; omega
theorem dg6 (n : Int) (h0 : 0 ≤ n) (h1 : n ≤ 4294967295) : dg n 6 = n / 16 % 16 := by simp only [dg]; omega
theorem dg7 (n : Int) (h0 : 0 ≤ n) (h1 : n ≤ 4294967295) : dg n 7 = n % 16 := by simp only [dg]; omega

theorem hex_push {n : Int} {k : Nat} {x : Int} (hk : k < 8) (hx : x = hexL.getD (dg n k).toNat 0) :
    ((hexList n).take k).map (Value.int .u8) ++ [Value.int .u8 x] = ((hexList n).take (k + 1)).map (Value.int .u8) := by
  have hl : k < (hexList n).length := by simpa [hexList] using hk
  rw [List.take_succ_eq_append_getElem hl, List.map_append]
  have : (hexList n)[k] = x := by
    rw [hx, ← hexList_getD n k hk]; simp [List.getD_eq_getElem?_getD, hl]
  simp [this]

set_option maxHeartbeats 1600000 in
theorem specl1Hex_any (n : Int) (w : World) (h0 : 0 ≤ n) (h1 : n ≤ 4294967295) :
    Calls Tryz.prog 121 #[.int .i64 n] w fun e w' => e = .returned (.string (hexText n)) ∧ Below w.heap.size w w' := by
  obtain ⟨i0, hi, hz0, hz1, hz2⟩ := info_parts Tryz.infoU8
  go_enter Tryz.func121, Tryz.ntmps121
  go_wp2
  go_loopw [3, 4] (fun v i wr => ∃ k : Nat, k ≤ 8 ∧ i = .int .i64 (7 - k) ∧ wr.ownsRow w.heap.size 5 1 v k (((hexList n).take k).map (Value.int .u8)) ∧ Below w.heap.size w wr) (fun _ i _ => (intOf i + 1).toNat)
  case atStart => exact ⟨0, Nat.zero_le _, rfl, World.ownsRow_made w #[] 0 (Nat.le_refl _) (Nat.zero_le _) rfl, (Below.refl _ _).alloc (Nat.le_refl _) _⟩
  case round =>
    obtain ⟨k, hk, rfl, hown, hbel⟩ := hrel
    have hand := i64_and15
    have hsz := hbel.size
    by_cases hlt : k < 8
    · rcases (show k = 0 ∨ k = 1 ∨ k = 2 ∨ k = 3 ∨ k = 4 ∨ k = 5 ∨ k = 6 ∨ k = 7 from by omega) with rfl | rfl | rfl | rfl | rfl | rfl | rfl | rfl
      · go_wp2_with (at_builtin; refine wpList_append_one rfl (.tmp 10) (.tmp 18) 22 rfl w.heap.size 5 i0 (.int .u8 0) 1 1 Tryz.underlying22 hi hz0 hz1 hz2 rfl (by decide) _ _ _ rfl hown rfl rfl ?_ ?_ ?_ hsz ?_)
        · first | rfl | (intro u hu; simp at hu; subst hu; rfl)
        · decide
        · decide
        · intro v' w' hown' hkept
          have hbel' := Kept.below_own hbel hsz hown hkept
          rw [hex_at, ← dg0 n h0 h1] at hown'
          have hown2 : w'.ownsRow w.heap.size 5 1 v' 1 (((hexList n).take 1).map (Value.int .u8)) := by rw [← hex_push (n := n) (k := 0) (by decide) rfl]; exact hown'
          have H1 := hide hown2
          have H2 := hide hbel'
          clear hown2 hbel' hown' hkept hown hbel
          go_wp2
          go_roundw
          case rel => exact ⟨1, by decide, by simp, H1.out, H2.out⟩
          case measure => simp [intOf]
      · go_wp2_with (at_builtin; refine wpList_append_one rfl (.tmp 10) (.tmp 18) 22 rfl w.heap.size 5 i0 (.int .u8 0) 1 1 Tryz.underlying22 hi hz0 hz1 hz2 rfl (by decide) _ _ _ rfl hown rfl rfl ?_ ?_ ?_ hsz ?_)
        · first | rfl | (intro u hu; simp at hu; subst hu; rfl)
        · decide
        · decide
        · intro v' w' hown' hkept
          have hbel' := Kept.below_own hbel hsz hown hkept
          rw [hex_at, ← dg1 n h0 h1] at hown'
          have hown2 : w'.ownsRow w.heap.size 5 1 v' 2 (((hexList n).take 2).map (Value.int .u8)) := by rw [← hex_push (n := n) (k := 1) (by decide) rfl]; exact hown'
          have H1 := hide hown2
          have H2 := hide hbel'
          clear hown2 hbel' hown' hkept hown hbel
          go_wp2
          go_roundw
          case rel => exact ⟨2, by decide, by simp, H1.out, H2.out⟩
          case measure => simp [intOf]
      · go_wp2_with (at_builtin; refine wpList_append_one rfl (.tmp 10) (.tmp 18) 22 rfl w.heap.size 5 i0 (.int .u8 0) 1 1 Tryz.underlying22 hi hz0 hz1 hz2 rfl (by decide) _ _ _ rfl hown rfl rfl ?_ ?_ ?_ hsz ?_)
        · first | rfl | (intro u hu; simp at hu; subst hu; rfl)
        · decide
        · decide
        · intro v' w' hown' hkept
          have hbel' := Kept.below_own hbel hsz hown hkept
          rw [hex_at, ← dg2 n h0 h1] at hown'
          have hown2 : w'.ownsRow w.heap.size 5 1 v' 3 (((hexList n).take 3).map (Value.int .u8)) := by rw [← hex_push (n := n) (k := 2) (by decide) rfl]; exact hown'
          have H1 := hide hown2
          have H2 := hide hbel'
          clear hown2 hbel' hown' hkept hown hbel
          go_wp2
          go_roundw
          case rel => exact ⟨3, by decide, by simp, H1.out, H2.out⟩
          case measure => simp [intOf]
      · go_wp2_with (at_builtin; refine wpList_append_one rfl (.tmp 10) (.tmp 18) 22 rfl w.heap.size 5 i0 (.int .u8 0) 1 1 Tryz.underlying22 hi hz0 hz1 hz2 rfl (by decide) _ _ _ rfl hown rfl rfl ?_ ?_ ?_ hsz ?_)
        · first | rfl | (intro u hu; simp at hu; subst hu; rfl)
        · decide
        · decide
        · intro v' w' hown' hkept
          have hbel' := Kept.below_own hbel hsz hown hkept
          rw [hex_at, ← dg3 n h0 h1] at hown'
          have hown2 : w'.ownsRow w.heap.size 5 1 v' 4 (((hexList n).take 4).map (Value.int .u8)) := by rw [← hex_push (n := n) (k := 3) (by decide) rfl]; exact hown'
          have H1 := hide hown2
          have H2 := hide hbel'
          clear hown2 hbel' hown' hkept hown hbel
          go_wp2
          go_roundw
          case rel => exact ⟨4, by decide, by simp, H1.out, H2.out⟩
          case measure => simp [intOf]
      · go_wp2_with (at_builtin; refine wpList_append_one rfl (.tmp 10) (.tmp 18) 22 rfl w.heap.size 5 i0 (.int .u8 0) 1 1 Tryz.underlying22 hi hz0 hz1 hz2 rfl (by decide) _ _ _ rfl hown rfl rfl ?_ ?_ ?_ hsz ?_)
        · first | rfl | (intro u hu; simp at hu; subst hu; rfl)
        · decide
        · decide
        · intro v' w' hown' hkept
          have hbel' := Kept.below_own hbel hsz hown hkept
          rw [hex_at, ← dg4 n h0 h1] at hown'
          have hown2 : w'.ownsRow w.heap.size 5 1 v' 5 (((hexList n).take 5).map (Value.int .u8)) := by rw [← hex_push (n := n) (k := 4) (by decide) rfl]; exact hown'
          have H1 := hide hown2
          have H2 := hide hbel'
          clear hown2 hbel' hown' hkept hown hbel
          go_wp2
          go_roundw
          case rel => exact ⟨5, by decide, by simp, H1.out, H2.out⟩
          case measure => simp [intOf]
      · go_wp2_with (at_builtin; refine wpList_append_one rfl (.tmp 10) (.tmp 18) 22 rfl w.heap.size 5 i0 (.int .u8 0) 1 1 Tryz.underlying22 hi hz0 hz1 hz2 rfl (by decide) _ _ _ rfl hown rfl rfl ?_ ?_ ?_ hsz ?_)
        · first | rfl | (intro u hu; simp at hu; subst hu; rfl)
        · decide
        · decide
        · intro v' w' hown' hkept
          have hbel' := Kept.below_own hbel hsz hown hkept
          rw [hex_at, ← dg5 n h0 h1] at hown'
          have hown2 : w'.ownsRow w.heap.size 5 1 v' 6 (((hexList n).take 6).map (Value.int .u8)) := by rw [← hex_push (n := n) (k := 5) (by decide) rfl]; exact hown'
          have H1 := hide hown2
          have H2 := hide hbel'
          clear hown2 hbel' hown' hkept hown hbel
          go_wp2
          go_roundw
          case rel => exact ⟨6, by decide, by simp, H1.out, H2.out⟩
          case measure => simp [intOf]
      · go_wp2_with (at_builtin; refine wpList_append_one rfl (.tmp 10) (.tmp 18) 22 rfl w.heap.size 5 i0 (.int .u8 0) 1 1 Tryz.underlying22 hi hz0 hz1 hz2 rfl (by decide) _ _ _ rfl hown rfl rfl ?_ ?_ ?_ hsz ?_)
        · first | rfl | (intro u hu; simp at hu; subst hu; rfl)
        · decide
        · decide
        · intro v' w' hown' hkept
          have hbel' := Kept.below_own hbel hsz hown hkept
          rw [hex_at, ← dg6 n h0 h1] at hown'
          have hown2 : w'.ownsRow w.heap.size 5 1 v' 7 (((hexList n).take 7).map (Value.int .u8)) := by rw [← hex_push (n := n) (k := 6) (by decide) rfl]; exact hown'
          have H1 := hide hown2
          have H2 := hide hbel'
          clear hown2 hbel' hown' hkept hown hbel
          go_wp2
          go_roundw
          case rel => exact ⟨7, by decide, by simp, H1.out, H2.out⟩
          case measure => simp [intOf]
      · go_wp2_with (at_builtin; refine wpList_append_one rfl (.tmp 10) (.tmp 18) 22 rfl w.heap.size 5 i0 (.int .u8 0) 1 1 Tryz.underlying22 hi hz0 hz1 hz2 rfl (by decide) _ _ _ rfl hown rfl rfl ?_ ?_ ?_ hsz ?_)
        · first | rfl | (intro u hu; simp at hu; subst hu; rfl)
        · decide
        · decide
        · intro v' w' hown' hkept
          have hbel' := Kept.below_own hbel hsz hown hkept
          rw [hex_at, ← dg7 n h0 h1] at hown'
          have hown2 : w'.ownsRow w.heap.size 5 1 v' 8 (((hexList n).take 8).map (Value.int .u8)) := by rw [← hex_push (n := n) (k := 7) (by decide) rfl]; exact hown'
          have H1 := hide hown2
          have H2 := hide hbel'
          clear hown2 hbel' hown' hkept hown hbel
          go_wp2
          go_roundw
          case rel => exact ⟨8, by decide, by simp, H1.out, H2.out⟩
          case measure => simp [intOf]
    · have hk8 : k = 8 := by omega
      subst hk8
      obtain ⟨g, cap, rfl, hg, hgl, hcell, hfz⟩ := ownsRow_ints hown (by simp [hexList]) (by decide)
      have e8 : (hexList n).take 8 = hexList n := List.take_of_length_le (by simp [hexList])
      have hconv := run_convert_bytes_arg (P := Tryz.prog) wr 22 5 Tryz.underlying22 Tryz.underlying5 g 0 8 cap (hexList n) (by simp [hexList]) (fun i hi => by rw [Nat.zero_add, hcell i hi, e8]) 9 Tryz.underlying9
      clear hown hcell hfz e8 hand
      go_wp2
      go_ret
      exact ⟨rfl, hbel⟩



end Go.Proofs.YtcknabinmbknaaaGreatDoor

namespace Go.Proofs.YtcknabinmbknaaaGreatDoor
open Go.RowKit
set_option linter.unusedVariables false
set_option maxRecDepth 100000

/-- What a digit tells. -/
def hv (c : Int) : Option Int := if 48 ≤ c ∧ c ≤ 57 then some (c - 48) else if 97 ≤ c ∧ c ≤ 102 then some (c - 87) else none
def pvStep (a : Option Int) (c : UInt8) : Option Int := a.bind fun x => (hv c.toNat).map fun d => x * 16 + d
def pv (l : List UInt8) : Option Int := l.foldl pvStep (some 0)

theorem pv_none (l : List UInt8) : l.foldl pvStep none = none := by
  induction l with
  | nil => rfl
  | cons a l ih => exact ih
theorem pv_step (s : ByteArray) (k : Nat) (h : k < s.size) : pv (s.data.toList.take (k + 1)) = pvStep (pv (s.data.toList.take k)) s[k] := by
  unfold pv
  rw [List.take_succ_eq_append_getElem (by simpa using h), List.foldl_append]
  rfl
theorem pv_stop (s : ByteArray) (k : Nat) (h : pv (s.data.toList.take k) = none) : pv s.data.toList = none := by
  have e : s.data.toList = s.data.toList.take k ++ s.data.toList.drop k := (List.take_append_drop k _).symm
  unfold pv at h ⊢
  rw [e, List.foldl_append, h, pv_none]
theorem hv_yes1 {c : Int} (h : 48 ≤ c) (h2 : c ≤ 57) : hv c = some (c - 48) := by simp [hv, h, h2]
theorem hv_yes2 {c : Int} (h : 97 ≤ c) (h2 : c ≤ 102) : hv c = some (c - 87) := by
  have : ¬ (48 ≤ c ∧ c ≤ 57) := by omega
  simp only [hv, if_neg this, if_pos (And.intro h h2)]
theorem hv_no {c : Int} (h : ¬ (48 ≤ c ∧ c ≤ 57)) (h2 : ¬ (97 ≤ c ∧ c ≤ 102)) : hv c = none := by
  simp only [hv, if_neg h, if_neg h2]

theorem pv_go {s : ByteArray} {k : Nat} {x d : Int} (h : k < s.size) (hp : pv (s.data.toList.take k) = some x) (hd : hv s[k].toNat = some d) : pv (s.data.toList.take (k + 1)) = some (x * 16 + d) := by
  rw [pv_step s k h, hp]; simp [pvStep, hd]
theorem pv_die {s : ByteArray} {k : Nat} {x : Int} (h : k < s.size) (hp : pv (s.data.toList.take k) = some x) (hd : hv s[k].toNat = none) : pv s.data.toList = none := by
  refine pv_stop s (k + 1) ?_
  rw [pv_step s k h, hp]; simp [pvStep, hd]
theorem pv_end {s : ByteArray} {k : Nat} {o : Option Int} (h : s.size ≤ k) (hp : pv (s.data.toList.take k) = o) : pv s.data.toList = o := by
  rw [List.take_of_length_le (by simpa using h)] at hp; exact hp
theorem pow_go {k : Nat} {x d : Int} (hx : x < 16 ^ k) (hd : d ≤ 15) : x * 16 + d < 16 ^ (k + 1) := by
  rw [Int.pow_succ]; omega
theorem pow_7 {k : Nat} {x : Int} (hk : k < 8) (hx : x < 16 ^ k) : x ≤ 268435455 := by
  have : (16 : Int) ^ k ≤ 16 ^ 7 := by
    have := Nat.pow_le_pow_right (n := 16) (by decide) (show k ≤ 7 by omega)
    exact_mod_cast this
  omega
theorem or_join (x d : Int) (h0 : 0 ≤ x) (h1 : x ≤ 268435455) (d0 : 0 ≤ d) (d1 : d ≤ 15) : bits .or .u32 (x * 16) d = x * 16 + d :=
  bits_join .u32 32 (by decide) (fun n a b => by rw [IntKind.wrap_u32]; omega) 4 (x * 16) d (by omega) (by omega) (by omega) d0 (by omega) (by omega)
theorem ret_pair {a b : Int} {c d : Bool} (h : a = b) (h2 : c = d) : Ending.returned (.tuple #[.int .i64 a, .bool c]) = .returned (.tuple #[.int .i64 b, .bool d]) := by rw [h, h2]
theorem hv_cases (c : Int) (h0 : 0 ≤ c) : (∃ d, hv c = some d ∧ 0 ≤ d ∧ d ≤ 15) ∨ hv c = none := by
  by_cases h1 : 48 ≤ c ∧ c ≤ 57
  · exact .inl ⟨_, hv_yes1 h1.1 h1.2, by omega, by omega⟩
  · by_cases h2 : 97 ≤ c ∧ c ≤ 102
    · exact .inl ⟨_, hv_yes2 h2.1 h2.2, by omega, by omega⟩
    · exact .inr (hv_no h1 h2)

theorem index_hv : ∀ n : Fin 256, Lib.indexByte [48, 49, 50, 51, 52, 53, 54, 55, 56, 57, 97, 98, 99, 100, 101, 102] n.val.toUInt8 = (hv n.val).getD (-1) := by decide +kernel

set_option maxRecDepth 100000 in
theorem indexByte_any (c : UInt8) (w : World) :
    Calls Tryz.prog 139 #[.string ⟨#[48, 49, 50, 51, 52, 53, 54, 55, 56, 57, 97, 98, 99, 100, 101, 102]⟩, .int .u8 c.toNat] w fun e w' => e = .returned (.int .i64 ((hv c.toNat).getD (-1))) ∧ w' = w := by
  go_enter Tryz.func139, Tryz.ntmps139
  go_wp2
  rw [run_callFunc_extern Tryz.func155 (by kernel_rfl) (by kernel_rfl) (by kernel_rfl) (e := Extern.BytealgIndexByte.indexByte) (by kernel_rfl), Lib.run_indexByteString]
  simp only [Result.andThen]
  rw [Oper.upon_value]
  go_wp2
  go_ret
  refine ⟨ret_int ?_, rfl⟩
  have := index_hv ⟨c.toNat, c.toNat_lt⟩
  simpa using this

set_option maxHeartbeats 800000 in
theorem l1Parse_any (s : ByteArray) (w : World) (hs : s.size = 8) :
    Calls Tryz.prog 82 #[.string s] w fun e w' => e = .returned (.tuple #[.int .i64 ((pv s.data.toList).getD 0), .bool (pv s.data.toList).isSome]) ∧ w' = w := by
  have hne : ((s.size : Int) != 8) = false := by simp [hs]
  have hs8 : 8 ≤ s.size := by omega
  have HS := hide hs
  clear hs
  go_enter Tryz.func82, Tryz.ntmps82
  go_wp2
  go_loop [4, 5, 6, 17, 30] (fun n i _ _ _ => ∃ k : Nat, ∃ x : Int, k ≤ 8 ∧ i = .int .i64 k ∧ n = .int .i64 x ∧ pv (s.data.toList.take k) = some x ∧ 0 ≤ x ∧ x < 16 ^ k) (fun _ i _ _ _ => 8 - (intOf i).toNat)
  case atStart => exact ⟨0, 0, Nat.zero_le _, rfl, rfl, rfl, by decide, by decide⟩
  case round =>
    obtain ⟨k, x, hk, rfl, rfl, hpv, hx0, hx1⟩ := hrel
    have HP := hide hpv
    clear hpv
    by_cases hlt : k < 8
    · have hx2 : x ≤ 268435455 := pow_7 hlt hx1
      have HX1 := hide hx1
      clear hx1
      have hks : k < s.size := by omega
      by_cases c1 : 48 ≤ (s[k].toNat : Int) ∧ (s[k].toNat : Int) ≤ 57
      · obtain ⟨c1, c2⟩ := c1
        go_wp2
        go_round
        case rel => exact ⟨k + 1, _, by omega, by go_num, rfl, pv_go hks HP.out (hv_yes1 c1 c2), by omega, pow_go HX1.out (by omega)⟩
        case measure => simp [intOf]; omega
      · by_cases c2 : 97 ≤ (s[k].toNat : Int) ∧ (s[k].toNat : Int) ≤ 102
        · obtain ⟨c2, c3⟩ := c2
          have c4 : 48 ≤ (s[k].toNat : Int) := by omega
          have c5 : ¬ (s[k].toNat : Int) ≤ 57 := by omega
          clear c1
          go_wp2
          go_round
          case rel => exact ⟨k + 1, _, by omega, by go_num, by go_num, pv_go hks HP.out (hv_yes2 c2 c3), by omega, pow_go HX1.out (by omega)⟩
          case measure => simp [intOf]; omega
        · have hdie := pv_die hks HP.out (hv_no c1 c2)
          have HD := hide hdie
          clear hdie
          rcases (show (s[k].toNat : Int) < 48 ∨ (57 < (s[k].toNat : Int) ∧ (s[k].toNat : Int) < 97) ∨ 102 < (s[k].toNat : Int) from by omega) with c3 | c3 | c3
          all_goals
            clear c1 c2
            go_wp2
            go_ret2
            exact ⟨ret_pair (by rw [HD.out]; rfl) (by rw [HD.out]; rfl), rfl⟩
    · have hend := pv_end (by have := HS.out; omega) HP.out
      have HE := hide hend
      clear hend
      go_wp2
      go_ret2
      exact ⟨ret_pair (by rw [HE.out]; rfl) (by rw [HE.out]; rfl), rfl⟩

/-- What both hand back. -/
def pvCode (s : ByteArray) : Int := if s.size = 8 ∧ (pv s.data.toList).isSome then 0 else 5
def pvValue (s : ByteArray) : Int := if s.size = 8 then (pv s.data.toList).getD 0 else 0

theorem l1Parse_len (s : ByteArray) (w : World) (hs : s.size ≠ 8) :
    Calls Tryz.prog 82 #[.string s] w fun e w' => e = .returned (.tuple #[.int .i64 0, .bool false]) ∧ w' = w := by
  have hne : ((s.size : Int) != 8) = true := by simp; omega
  go_enter Tryz.func82, Tryz.ntmps82
  go_wp2
  go_ret2
  exact ⟨rfl, rfl⟩



set_option maxHeartbeats 800000 in
theorem implParseHex_any (s : ByteArray) (w : World) :
    Calls Tryz.prog 119 #[.string s] w fun e w' => e = .returned (.agg #[.int .i64 (pvCode s), .int .i64 (pvValue s)]) ∧ Below w.heap.size w w' := by
  by_cases hs : s.size = 8
  · have hne : ((s.size : Int) != 8) = false := by simp [hs]
    have hs8 : 8 ≤ s.size := by omega
    have hs9 : s.size ≤ 8 := by omega
    have HS := hide hs
    clear hs
    go_enter Tryz.func119, Tryz.ntmps119
    go_wp2
    go_loop [3, 4, 5, 12] (fun n _ _ i => ∃ k : Nat, ∃ x : Int, k ≤ 8 ∧ i = .int .i64 k ∧ n = .int .u32 x ∧ pv (s.data.toList.take k) = some x ∧ 0 ≤ x ∧ x < 16 ^ k) (fun _ _ _ i => 8 - (intOf i).toNat)
    case atStart => exact ⟨0, 0, Nat.zero_le _, rfl, rfl, rfl, by decide, by decide⟩
    case round =>
      obtain ⟨k, x, hk, rfl, rfl, hpv, hx0, hx1⟩ := hrel
      have HP := hide hpv
      clear hpv
      by_cases hlt : k < 8
      · have hx2 : x ≤ 268435455 := pow_7 hlt hx1
        have HX1 := hide hx1
        clear hx1
        have hks : k < s.size := by omega
        rcases hv_cases (s[k].toNat : Int) (by omega) with ⟨d, hd, d0, d1⟩ | hd
        · have hj := or_join x d hx0 hx2 d0 d1
          have HD := hide hd
          clear hd
          go_wp2_with (go_at_call 139; refine (indexByte_any _ _).mono ?_; rintro e w' ⟨rfl, rfl⟩; rw [HD.out]; simp only [Option.getD_some])
          go_round
          case rel => exact ⟨k + 1, _, by omega, by go_num, rfl, pv_go hks HP.out HD.out, by omega, pow_go HX1.out (by omega)⟩
          case measure => simp [intOf]; omega
        · have hdie := pv_die hks HP.out hd
          have e1 : pvCode s = 5 := by simp [pvCode, hdie]
          have e2 : pvValue s = 0 := by simp [pvValue, hdie]
          have HD := hide hd
          have HE := hide (And.intro e1 e2)
          clear hd hdie e1 e2
          go_wp2_with (go_at_call 139; refine (indexByte_any _ _).mono ?_; rintro e w' ⟨rfl, rfl⟩; rw [HD.out]; simp only [Option.getD_none])
          obtain ⟨e1, e2⟩ := HE.out
          rw [e1, e2]
          exact bodyPost_ret (v := .agg #[.int .i64 5, .int .i64 0]) (by simp [results, Tryz.results119, go_sem]) rfl ⟨rfl, (Below.refl _ _).alloc (Nat.le_refl _) _⟩
      · have hend := pv_end (by omega) HP.out
        have e1 : pvCode s = 0 := by simp [pvCode, hend, HS.out]
        have e2 : pvValue s = x := by simp [pvValue, hend, HS.out]
        have hx2 : x < 4294967296 := by
          have hk8 : k = 8 := by omega
          subst hk8
          exact hx1
        have HE := hide (And.intro e1 e2)
        clear hend e1 e2 hx1
        go_wp2
        obtain ⟨e1, e2⟩ := HE.out
        rw [e1, e2]
        exact bodyPost_ret (v := .agg #[.int .i64 0, .int .i64 x]) (by simp [results, Tryz.results119, go_sem]) rfl ⟨rfl, (Below.refl _ _).alloc (Nat.le_refl _) _⟩
  · have hne : ((s.size : Int) != 8) = true := by simp; omega
    have e1 : pvCode s = 5 := by simp [pvCode, hs]
    have e2 : pvValue s = 0 := by simp [pvValue, hs]
    rw [e1, e2]
    clear e1 e2
    go_enter Tryz.func119, Tryz.ntmps119
    go_wp2
    exact bodyPost_ret (v := .agg #[.int .i64 5, .int .i64 0]) (by simp [results, Tryz.results119, go_sem]) rfl ⟨rfl, (Below.refl _ _).alloc (Nat.le_refl _) _⟩

end Go.Proofs.YtcknabinmbknaaaGreatDoor

namespace Go.Proofs.YtcknabinmbknaaaGreatDoor
open Go.RowKit
set_option linter.unusedVariables false
set_option maxRecDepth 100000

theorem hexText_size (n : Int) : (hexText n).size = 8 := by unfold hexText; rw [strOfNums_size]; simp [hexList]
theorem hv_digit : ∀ d : Fin 16, hv ((UInt8.ofNat (hexL.getD d.val 0).toNat).toNat : Int) = some (d.val : Int) := by decide
theorem hv_dg (d : Int) (h0 : 0 ≤ d) (h1 : d < 16) : hv ((UInt8.ofNat (hexL.getD d.toNat 0).toNat).toNat : Int) = some d := by
  have := hv_digit ⟨d.toNat, by omega⟩
  simp only at this
  rw [this]
  congr 1
  omega
theorem pv_hex (n : Int) (h0 : 0 ≤ n) (h1 : n ≤ 4294967295) : pv (hexText n).data.toList = some n := by
  have e : (hexText n).data.toList = (hexList n).map fun z => UInt8.ofNat z.toNat := rfl
  have e2 : hexList n = [hexL.getD (dg n 0).toNat 0, hexL.getD (dg n 1).toNat 0, hexL.getD (dg n 2).toNat 0, hexL.getD (dg n 3).toNat 0, hexL.getD (dg n 4).toNat 0, hexL.getD (dg n 5).toNat 0, hexL.getD (dg n 6).toNat 0, hexL.getD (dg n 7).toNat 0] := rfl
  rw [e, e2]
  simp only [List.map_cons, List.map_nil, pv, List.foldl_cons, List.foldl_nil]
  have k0 := dg0 n h0 h1
  have k1 := dg1 n h0 h1
  have k2 := dg2 n h0 h1
  have k3 := dg3 n h0 h1
  have k4 := dg4 n h0 h1
  have k5 := dg5 n h0 h1
  have k6 := dg6 n h0 h1
  have k7 := dg7 n h0 h1
  simp only [pvStep, Option.bind_some, hv_dg (dg n 0) (by omega) (by omega), hv_dg (dg n 1) (by omega) (by omega), hv_dg (dg n 2) (by omega) (by omega), hv_dg (dg n 3) (by omega) (by omega), hv_dg (dg n 4) (by omega) (by omega), hv_dg (dg n 5) (by omega) (by omega), hv_dg (dg n 6) (by omega) (by omega), hv_dg (dg n 7) (by omega) (by omega), Option.map_some]
  congr 1
  omega
theorem pvValue_hex (n : Int) (h0 : 0 ≤ n) (h1 : n ≤ 4294967295) : pvValue (hexText n) = n := by
  unfold pvValue
  rw [if_pos (hexText_size n), pv_hex n h0 h1]
  rfl
end Go.Proofs.YtcknabinmbknaaaGreatDoor

namespace Go.Proofs.YtcknabinmbknaaaGreatDoor
set_option linter.unusedVariables false

/-- Cut at each mark. -/
def cutC (m : UInt8) : Bs → List Bs
  | [] => [[]]
  | c :: l => if c = m then [] :: cutC m l else
    match cutC m l with
    | [] => [[c]]
    | p :: ps => (c :: p) :: ps

theorem cutC_ne (m : UInt8) (l : Bs) : cutC m l ≠ [] := by
  cases l with
  | nil => simp [cutC]
  | cons c l =>
    simp only [cutC]
    split
    · simp
    · split <;> simp
theorem cutC_mark {m : UInt8} (l : Bs) : cutC m (m :: l) = [] :: cutC m l := by simp [cutC]
theorem cutC_other {m : UInt8} {c : UInt8} (h : c ≠ m) {l : Bs} {p : Bs} {ps : List Bs} (e : cutC m l = p :: ps) : cutC m (c :: l) = (c :: p) :: ps := by
  simp [cutC, h, e]
theorem cutC_head {m : UInt8} (l : Bs) : ∃ p ps, cutC m l = p :: ps := by
  cases e : cutC m l with
  | nil => exact absurd e (cutC_ne m l)
  | cons p ps => exact ⟨p, ps, rfl⟩

theorem cutC_miss {m : UInt8} {l : Bs} (h : m ∉ l) : cutC m l = [l] := by
  induction l with
  | nil => rfl
  | cons c l ih =>
    have h1 : c ≠ m := fun e => h (by simp [e])
    have h2 : m ∉ l := fun e => h (by simp [e])
    exact cutC_other h1 (ih h2)
theorem cutC_hit {m : UInt8} {a : Bs} (b : Bs) (h : m ∉ a) : cutC m (a ++ m :: b) = a :: cutC m b := by
  induction a with
  | nil => exact cutC_mark b
  | cons c a ih =>
    have h1 : c ≠ m := fun e => h (by simp [e])
    have h2 : m ∉ a := fun e => h (by simp [e])
    exact cutC_other h1 (ih h2)

/-- One byte more, at the end. -/
theorem cutC_snoc {m : UInt8} : ∀ (l : Bs) (c : UInt8) (o : List Bs) (x : Bs), cutC m l = o ++ [x] → cutC m (l ++ [c]) = if c = m then o ++ [x] ++ [[]] else o ++ [x ++ [c]]
  | [], c, o, x, h => by
    have e : o = [] ∧ x = [] := by
      cases o with
      | nil => simpa [cutC, eq_comm] using h
      | cons a o => simp [cutC] at h
    obtain ⟨rfl, rfl⟩ := e
    by_cases hc : c = m
    · subst hc; simp [cutC]
    · simp [cutC, hc]
  | d :: l, c, o, x, h => by
    by_cases hd : d = m
    · subst hd
      rw [cutC_mark] at h
      cases o with
      | nil =>
        simp at h
        exact absurd h.2 (cutC_ne _ l)
      | cons a o =>
        simp at h
        obtain ⟨rfl, h⟩ := h
        have ih := cutC_snoc l c o x h
        simp only [List.cons_append, cutC_mark, ih]
        split <;> simp
    · obtain ⟨p, ps, e⟩ := cutC_head l
      rw [cutC_other hd e] at h
      cases o with
      | nil =>
        simp at h
        obtain ⟨rfl, rfl⟩ := h
        have ih := cutC_snoc l c [] p e
        by_cases hc : c = m
        · simp only [hc, if_pos, List.nil_append, List.cons_append] at ih ⊢
          exact cutC_other hd ih
        · simp only [hc, if_false, List.nil_append, List.cons_append] at ih ⊢
          exact cutC_other hd ih
      | cons a o =>
        simp at h
        obtain ⟨rfl, h⟩ := h
        have ih := cutC_snoc (m := m) l c (p :: o) x (by simp [e, h])
        by_cases hc : c = m
        · simp only [hc, if_pos, List.cons_append] at ih ⊢
          exact cutC_other hd ih
        · simp only [hc, if_false, List.cons_append] at ih ⊢
          exact cutC_other hd ih

theorem cutC_no {m : UInt8} : ∀ (l : Bs), ∀ n ∈ cutC m l, m ∉ n
  | [], n, h => by simp [cutC] at h; simp [h]
  | c :: l, n, h => by
    by_cases hc : c = m
    · subst hc
      rw [cutC_mark] at h
      rcases List.mem_cons.1 h with rfl | h
      · simp
      · exact cutC_no l n h
    · obtain ⟨p, ps, e⟩ := cutC_head l
      rw [cutC_other hc e] at h
      rcases List.mem_cons.1 h with rfl | h
      · have := cutC_no (m := m) l p (by simp [e])
        simp [this, Ne.symm hc]
      · exact cutC_no (m := m) l n (by simp [e, h])

theorem cutC_length {m : UInt8} (l : Bs) : (cutC m l).length ≤ l.length + 1 := by
  induction l with
  | nil => simp [cutC]
  | cons c l ih =>
    by_cases hc : c = m
    · subst hc; rw [cutC_mark]; simp; omega
    · obtain ⟨p, ps, e⟩ := cutC_head l
      rw [cutC_other hc e]
      rw [e] at ih
      simp at ih ⊢; omega
theorem cutC_each {m : UInt8} : ∀ (l : Bs), ∀ n ∈ cutC m l, n.length ≤ l.length
  | [], n, h => by simp [cutC] at h; simp [h]
  | c :: l, n, h => by
    by_cases hc : c = m
    · subst hc
      rw [cutC_mark] at h
      rcases List.mem_cons.1 h with rfl | h
      · simp
      · have := cutC_each l n h; simp; omega
    · obtain ⟨p, ps, e⟩ := cutC_head l
      rw [cutC_other hc e] at h
      rcases List.mem_cons.1 h with rfl | h
      · have := cutC_each (m := m) l p (by simp [e]); simp; omega
      · have := cutC_each (m := m) l n (by simp [e, h]); simp; omega

/-- Joined with a mark between. -/
def joinC (m : UInt8) : List Bs → Bs
  | [] => []
  | [p] => p
  | p :: q :: r => p ++ m :: joinC m (q :: r)
theorem joinC_two (m : UInt8) (p : Bs) {r : List Bs} (h : r ≠ []) : joinC m (p :: r) = p ++ m :: joinC m r := by
  cases r with
  | nil => exact absurd rfl h
  | cons q r => rfl
theorem joinC_cut (m : UInt8) : ∀ (l : Bs), joinC m (cutC m l) = l
  | [] => rfl
  | c :: l => by
    have ih := joinC_cut m l
    by_cases hc : c = m
    · rw [hc, cutC_mark, joinC_two m _ (cutC_ne m l), ih]; rfl
    · obtain ⟨p, ps, e⟩ := cutC_head (m := m) l
      rw [cutC_other hc e]
      rw [e] at ih
      cases ps with
      | nil => simp only [joinC] at ih ⊢; rw [ih]
      | cons q r => simp only [joinC] at ih ⊢; rw [List.cons_append, ih]
theorem cut_joinC {m : UInt8} : ∀ {ps : List Bs}, ps ≠ [] → (∀ p ∈ ps, m ∉ p) → cutC m (joinC m ps) = ps
  | [], h, _ => absurd rfl h
  | [p], _, h => cutC_miss (h p (by simp))
  | p :: q :: r, _, h => by
    show cutC m (p ++ m :: joinC m (q :: r)) = _
    rw [cutC_hit _ (h p (by simp)), cut_joinC (by simp) (fun x hx => h x (by simp at hx ⊢; exact .inr hx))]
theorem joinC_no {m c : UInt8} (hc : c ≠ m) : ∀ {ps : List Bs}, (∀ p ∈ ps, c ∉ p) → c ∉ joinC m ps
  | [], _ => by simp [joinC]
  | [p], h => h p (by simp)
  | p :: q :: r, h => by
    show c ∉ p ++ m :: joinC m (q :: r)
    have ih := joinC_no hc (ps := q :: r) (fun x hx => h x (by simp at hx ⊢; exact .inr hx))
    simp [h p (by simp), hc, ih]
def hexB (n : Int) : Bs := (hexText n).data.toList
theorem str_hexB (n : Int) : str (hexB n) = hexText n := str_of _
theorem hexB_length (n : Int) : (hexB n).length = 8 := by
  have := hexText_size n
  rw [Lib.size_eq] at this
  exact this
theorem hexB_chars (n : Int) : ∀ c ∈ hexB n, c ≠ 10 ∧ c ≠ 32 ∧ c ≠ 44 ∧ c ≠ 45 := by
  intro c hc
  have e : hexB n = (hexList n).map fun z => UInt8.ofNat z.toNat := rfl
  rw [e] at hc
  obtain ⟨z, hz, rfl⟩ := List.mem_map.1 hc
  obtain ⟨i, hi, rfl⟩ := List.mem_map.1 hz
  have hd : ∀ d : Fin 16, UInt8.ofNat (hexL.getD d.val 0).toNat ≠ 10 ∧ UInt8.ofNat (hexL.getD d.val 0).toNat ≠ 32 ∧ UInt8.ofNat (hexL.getD d.val 0).toNat ≠ 44 ∧ UInt8.ofNat (hexL.getD d.val 0).toNat ≠ 45 := by decide
  have hr := dg_range n i
  exact hd ⟨(dg n i).toNat, by unfold dg; omega⟩
theorem hexB_ne (n : Int) : hexB n ≠ [45] := by
  intro h
  have := hexB_length n
  rw [h] at this
  cases this

/-- A number from 0 to 99, in decimal. -/
def digB (n : Int) : Bs := if n < 10 then [UInt8.ofNat (48 + n).toNat] else [UInt8.ofNat (48 + n / 10).toNat, UInt8.ofNat (48 + n % 10).toNat]
theorem digB_chars (n : Int) (h0 : 0 ≤ n) (h1 : n ≤ 24) : ∀ c ∈ digB n, c ≠ 10 ∧ c ≠ 32 := by
  have : ∀ k : Fin 25, ∀ c ∈ digB (k.val : Int), c ≠ 10 ∧ c ≠ 32 := by decide
  have := this ⟨n.toNat, by omega⟩
  simpa [show ((n.toNat : Nat) : Int) = n from by omega] using this

def hexesB (cs : List Int) : Bs := if cs = [] then [45] else joinC 44 (cs.map hexB)
def kindB (k : Int) : Bs := if k = 1 then [102] else if k = 2 then [100] else if k = 3 then [119] else [111]
/-- What EntryText tells. -/
def textE (e : En) : Bs := if e.kind = 1 then joinC 32 [[102], e.path, digB e.size, hexesB e.chunks] else joinC 32 [kindB e.kind, e.path]
/-- What PackLayer tells. -/
def packL (es : List En) : Bs := (es.map fun e => textE e ++ [10]).flatten

/-- What a right entry is. -/
structure FitE (e : En) : Prop where
  path : faultP e.path = 0
  kind : 1 ≤ e.kind ∧ e.kind ≤ 4
  form : e.kind = 1 ∨ (e.size = 0 ∧ e.chunks = [])
  size : 0 ≤ e.size ∧ e.size ≤ 24
  many : (e.chunks.length : Int) = (e.size + 7) / 8
  digs : ∀ c ∈ e.chunks, 0 ≤ c ∧ c ≤ 4294967295
theorem entFault_fit {e : En} : entFault e = 0 ↔ FitE e := by
  constructor
  · intro h
    by_cases hp : faultP e.path = 0
    · by_cases h1 : formE e = true
      · by_cases h2 : sizeE e = true
        · by_cases h3 : manyE e = true
          · rw [entFault_digs hp h1 h2 h3] at h
            by_cases h4 : e.chunks.all isDig = true
            · simp only [formE, decide_eq_true_eq] at h1
              simp only [sizeE, decide_eq_true_eq] at h2
              simp only [manyE, decide_eq_true_eq] at h3
              refine ⟨hp, h1.1, ?_, h2, h3, ?_⟩
              · rcases h1.2 with h | h
                · exact .inl h
                · exact .inr ⟨h.1, List.length_eq_zero_iff.1 h.2⟩
              · intro c hc
                have := List.all_eq_true.1 h4 c hc
                simpa [isDig] using this
            · rw [if_neg h4] at h; cases h
          · rw [entFault_many hp h1 h2 (by simpa using h3)] at h; cases h
        · rw [entFault_size hp h1 (by simpa using h2)] at h; cases h
      · rw [entFault_form hp (by simpa using h1)] at h; cases h
    · rw [entFault_path hp] at h; exact absurd h hp
  · intro ⟨hp, hk, hf, hs, hm, hd⟩
    rw [entFault_digs hp (by simp only [formE, decide_eq_true_eq]; exact ⟨hk, hf.imp id fun h => ⟨h.1, by simp [h.2]⟩⟩) (by simp only [sizeE, decide_eq_true_eq]; exact hs) (by simp only [manyE, decide_eq_true_eq]; exact hm), if_pos]
    apply List.all_eq_true.2
    intro c hc
    simpa [isDig] using hd c hc

theorem plain_chars {n : Bs} (h : plain n = true) : ∀ c ∈ n, c ≠ 10 ∧ c ≠ 32 ∧ c ≠ 44 := by
  intro c hc
  simp only [plain, Bool.and_eq_true] at h
  have := List.all_eq_true.1 h.1 c hc
  simp only [small, decide_eq_true_eq] at this
  refine ⟨?_, ?_, ?_⟩ <;> (rintro rfl; simp at this)
theorem joinB_chars : ∀ {ns : List Bs}, (∀ n ∈ ns, plain n = true) → ∀ c ∈ joinB ns, c ≠ 10 ∧ c ≠ 32 ∧ c ≠ 44
  | [], _, c, hc => by simp [joinB] at hc
  | n :: ns, h, c, hc => by
    simp only [joinB, List.mem_cons, List.mem_append] at hc
    rcases hc with rfl | hc | hc
    · decide
    · exact plain_chars (h n (by simp)) c hc
    · exact joinB_chars (fun x hx => h x (by simp [hx])) c hc
theorem path_chars {p : Bs} (h : faultP p = 0) : ∀ c ∈ p, c ≠ 10 ∧ c ≠ 32 ∧ c ≠ 44 := by
  obtain ⟨ns, hn, rfl, -⟩ := faultP_zero h
  exact joinB_chars hn.2.1
theorem hexesB_chars (cs : List Int) : ∀ c ∈ hexesB cs, c ≠ 10 ∧ c ≠ 32 := by
  unfold hexesB
  split
  · decide
  · intro c hc
    have h10 : (10 : UInt8) ∉ joinC 44 (cs.map hexB) := joinC_no (by decide) (fun p hp => by obtain ⟨z, -, rfl⟩ := List.mem_map.1 hp; exact fun h => (hexB_chars z _ h).1 rfl)
    have h32 : (32 : UInt8) ∉ joinC 44 (cs.map hexB) := joinC_no (by decide) (fun p hp => by obtain ⟨z, -, rfl⟩ := List.mem_map.1 hp; exact fun h => (hexB_chars z _ h).2.1 rfl)
    exact ⟨fun e => h10 (e ▸ hc), fun e => h32 (e ▸ hc)⟩
theorem kindB_chars (k : Int) : ∀ c ∈ kindB k, c ≠ 10 ∧ c ≠ 32 := by
  unfold kindB
  repeat' split
  all_goals decide
/-- The words of a right entry's text. -/
def wordsE (e : En) : List Bs := if e.kind = 1 then [[102], e.path, digB e.size, hexesB e.chunks] else [kindB e.kind, e.path]
theorem textE_words (e : En) : textE e = joinC 32 (wordsE e) := by unfold textE wordsE; split <;> rfl
theorem wordsE_chars {e : En} (h : FitE e) : ∀ p ∈ wordsE e, ∀ c ∈ p, c ≠ 10 ∧ c ≠ 32 := by
  intro p hp
  have hpath : ∀ c ∈ e.path, c ≠ 10 ∧ c ≠ 32 := fun c hc => ⟨(path_chars h.path c hc).1, (path_chars h.path c hc).2.1⟩
  unfold wordsE at hp
  split at hp
  · simp only [List.mem_cons, List.not_mem_nil, or_false] at hp
    rcases hp with rfl | rfl | rfl | rfl
    · decide
    · exact hpath
    · exact digB_chars _ h.size.1 h.size.2
    · exact hexesB_chars _
  · simp only [List.mem_cons, List.not_mem_nil, or_false] at hp
    rcases hp with rfl | rfl
    · exact kindB_chars _
    · exact hpath
theorem wordsE_ne (e : En) : wordsE e ≠ [] := by unfold wordsE; split <;> simp
theorem cut_textE {e : En} (h : FitE e) : cutC 32 (textE e) = wordsE e := by
  rw [textE_words]
  exact cut_joinC (wordsE_ne e) (fun p hp hc => (wordsE_chars h p hp _ hc).2 rfl)
theorem textE_line {e : En} (h : FitE e) : (10 : UInt8) ∉ textE e := by
  rw [textE_words]
  exact joinC_no (by decide) (fun p hp hc => (wordsE_chars h p hp _ hc).1 rfl)

/-- A digest's text read. -/
def hexW (w : Bs) : Option Int := if w.length = 8 then pv w else none
theorem hexW_hex {n : Int} (h : 0 ≤ n ∧ n ≤ 4294967295) : hexW (hexB n) = some n := by
  unfold hexW
  rw [if_pos (hexB_length n)]
  exact pv_hex n h.1 h.2
theorem hexW_all : ∀ {cs : List Int}, (∀ c ∈ cs, 0 ≤ c ∧ c ≤ 4294967295) → (cs.map hexB).mapM hexW = some cs
  | [], _ => rfl
  | c :: cs, h => by
    rw [List.map_cons, List.mapM_cons, hexW_hex (h c (by simp)), hexW_all (fun x hx => h x (by simp [hx]))]
    rfl
theorem hexesB_one {cs : List Int} (h : cs ≠ []) : hexesB cs ≠ [45] := by
  unfold hexesB
  rw [if_neg h]
  intro e
  have hm : (45 : UInt8) ∈ joinC 44 (cs.map hexB) := by rw [e]; simp
  exact joinC_no (by decide) (fun p hp => by obtain ⟨z, -, rfl⟩ := List.mem_map.1 hp; exact fun h => (hexB_chars z _ h).2.2.2 rfl) hm
theorem cut_hexes {cs : List Int} (h : cs ≠ []) : cutC 44 (hexesB cs) = cs.map hexB := by
  unfold hexesB
  rw [if_neg h]
  exact cut_joinC (by simpa using h) (fun p hp => by obtain ⟨z, -, rfl⟩ := List.mem_map.1 hp; exact fun h => (hexB_chars z _ h).2.2.1 rfl)
end Go.Proofs.YtcknabinmbknaaaGreatDoor

namespace Go.Proofs.YtcknabinmbknaaaGreatDoor
set_option linter.unusedVariables false

def imageW : Bs := [105, 109, 97, 103, 101]
/-- What the fault of a manifest is. -/
def manFault (n : Bs) (ds : List Int) : Int := if plain n then (if 4 < n.length ∨ ds.length < 1 ∨ 3 < ds.length then 2 else if ds.all isDig then 0 else 3) else 5
theorem manFault_name {n : Bs} {ds : List Int} (h : plain n = false) : manFault n ds = 5 := by simp [manFault, h]
theorem manFault_many {n : Bs} {ds : List Int} (h : plain n = true) (h1 : 4 < n.length ∨ ds.length < 1 ∨ 3 < ds.length) : manFault n ds = 2 := by rw [manFault, if_pos h, if_pos h1]
theorem manFault_digs {n : Bs} {ds : List Int} (h : plain n = true) (h1 : ¬ (4 < n.length ∨ ds.length < 1 ∨ 3 < ds.length)) : manFault n ds = if ds.all isDig then 0 else 3 := by rw [manFault, if_pos h, if_neg h1]
structure FitM (n : Bs) (ds : List Int) : Prop where
  name : plain n = true
  len : n.length ≤ 4
  some : ds ≠ []
  many : ds.length ≤ 3
  digs : ∀ c ∈ ds, 0 ≤ c ∧ c ≤ 4294967295
theorem manFault_fit {n : Bs} {ds : List Int} : manFault n ds = 0 ↔ FitM n ds := by
  constructor
  · intro h
    by_cases hp : plain n = true
    · by_cases h1 : 4 < n.length ∨ ds.length < 1 ∨ 3 < ds.length
      · rw [manFault_many hp h1] at h; cases h
      · rw [manFault_digs hp h1] at h
        by_cases h4 : ds.all isDig = true
        · refine ⟨hp, by omega, fun e => h1 (by simp [e]), by omega, fun c hc => ?_⟩
          have := List.all_eq_true.1 h4 c hc
          simpa [isDig] using this
        · rw [if_neg h4] at h; cases h
    · rw [manFault_name (by simpa using hp)] at h; cases h
  · intro ⟨hp, hl, hs, hm, hd⟩
    have hz : ds.length ≠ 0 := fun e => hs (List.length_eq_zero_iff.1 e)
    rw [manFault_digs hp (by omega), if_pos]
    apply List.all_eq_true.2
    intro c hc
    simpa [isDig] using hd c hc
/-- The words of a manifest's text. -/
def wordsM (n : Bs) (ds : List Int) : List Bs := imageW :: n :: ds.map hexB
/-- What PackManifest tells. -/
def imageB (n : Bs) (ds : List Int) : Bs := joinC 32 (wordsM n ds) ++ [10]
theorem wordsM_chars {n : Bs} {ds : List Int} (h : plain n = true) : ∀ p ∈ wordsM n ds, (32 : UInt8) ∉ p := by
  intro p hp
  simp only [wordsM, List.mem_cons, List.mem_map] at hp
  rcases hp with rfl | rfl | ⟨z, -, rfl⟩
  · decide
  · exact fun hc => (plain_chars h _ hc).2.1 rfl
  · exact fun hc => (hexB_chars z _ hc).2.1 rfl
theorem cut_image {n : Bs} {ds : List Int} (h : plain n = true) : cutC 32 (joinC 32 (wordsM n ds)) = wordsM n ds := cut_joinC (by simp [wordsM]) (wordsM_chars h)
def packCode (n : Bs) (ds : List Int) : Int := manFault n ds
def packText (n : Bs) (ds : List Int) : Bs := if manFault n ds = 0 then imageB n ds else []

/-- What the model reads: the words but for the line feed. -/
def readM (l : Bs) : Option (Bs × List Int) :=
  match cutC 32 l with
  | a :: n :: r => if a = imageW then (match r.mapM hexW with | some ds => if manFault n ds = 0 then some (n, ds) else none | none => none) else none
  | _ => none
/-- What ParseManifest answers. -/
def parseM (t : Bs) : Option (Bs × List Int) := if t.getLast? = some 10 then readM t.dropLast else none
theorem imageB_last (n : Bs) (ds : List Int) : (imageB n ds).getLast? = some 10 ∧ (imageB n ds).dropLast = joinC 32 (wordsM n ds) := by simp [imageB]
theorem parseM_of {n : Bs} {ds : List Int} (h : FitM n ds) : parseM (imageB n ds) = some (n, ds) := by
  unfold parseM
  rw [if_pos (imageB_last n ds).1, (imageB_last n ds).2]
  unfold readM
  rw [cut_image h.name]
  simp only [wordsM, if_true, hexW_all h.digs, if_pos (manFault_fit.2 h)]
theorem hv_back : ∀ n : Fin 256, ∀ v : Fin 16, hv (n.val : Int) = some (v.val : Int) → UInt8.ofNat (hexL.getD v.val 0).toNat = UInt8.ofNat n.val := by decide +kernel
theorem hv_char {c : UInt8} {v : Int} (h : hv (c.toNat : Int) = some v) : 0 ≤ v ∧ v < 16 ∧ UInt8.ofNat (hexL.getD v.toNat 0).toNat = c := by
  have hr : 0 ≤ v ∧ v < 16 := by
    rcases hv_cases (c.toNat : Int) (by omega) with ⟨d, hd, h0, h1⟩ | hn
    · rw [hd] at h; cases h; omega
    · rw [hn] at h; cases h
  refine ⟨hr.1, hr.2, ?_⟩
  have := hv_back ⟨c.toNat, c.toNat_lt⟩ ⟨v.toNat, by omega⟩ (by simp only; rw [h]; congr 1; omega)
  simpa using this
theorem pv_cons_none {l : Bs} (a : Option Int) (h : a = none) : l.foldl pvStep a = none := by rw [h]; exact pv_none l
theorem pvStep_some {a : Option Int} {c : UInt8} {x : Int} (h : pvStep a c = some x) : ∃ y v, a = some y ∧ hv (c.toNat : Int) = some v ∧ x = y * 16 + v := by
  cases a with
  | none => simp [pvStep] at h
  | some y =>
    simp only [pvStep, Option.bind_some] at h
    cases hv' : hv (c.toNat : Int) with
    | none => rw [hv'] at h; cases h
    | some v => rw [hv'] at h; simp at h; exact ⟨y, v, rfl, rfl, h.symm⟩
theorem hexW_pv {w : Bs} {d : Int} (h : hexW w = some d) : hexB d = w ∧ 0 ≤ d ∧ d ≤ 4294967295 := by
  unfold hexW at h
  by_cases hl : w.length = 8
  · rw [if_pos hl] at h
    match w, hl with
    | [c0, c1, c2, c3, c4, c5, c6, c7], _ =>
      simp only [pv, List.foldl_cons, List.foldl_nil] at h
      obtain ⟨y7, v7, h7, k7, e7⟩ := pvStep_some h
      obtain ⟨y6, v6, h6, k6, e6⟩ := pvStep_some h7
      obtain ⟨y5, v5, h5, k5, e5⟩ := pvStep_some h6
      obtain ⟨y4, v4, h4, k4, e4⟩ := pvStep_some h5
      obtain ⟨y3, v3, h3, k3, e3⟩ := pvStep_some h4
      obtain ⟨y2, v2, h2, k2, e2⟩ := pvStep_some h3
      obtain ⟨y1, v1, h1, k1, e1⟩ := pvStep_some h2
      obtain ⟨y0, v0, h0, k0, e0⟩ := pvStep_some h1
      cases h0
      obtain ⟨a0, b0, q0⟩ := hv_char k0
      obtain ⟨a1, b1, q1⟩ := hv_char k1
      obtain ⟨a2, b2, q2⟩ := hv_char k2
      obtain ⟨a3, b3, q3⟩ := hv_char k3
      obtain ⟨a4, b4, q4⟩ := hv_char k4
      obtain ⟨a5, b5, q5⟩ := hv_char k5
      obtain ⟨a6, b6, q6⟩ := hv_char k6
      obtain ⟨a7, b7, q7⟩ := hv_char k7
      have d0 : 0 ≤ d := by omega
      have d1 : d ≤ 4294967295 := by omega
      refine ⟨?_, d0, d1⟩
      have e : hexB d = (hexList d).map fun z => UInt8.ofNat z.toNat := rfl
      have e' : hexList d = [hexL.getD (dg d 0).toNat 0, hexL.getD (dg d 1).toNat 0, hexL.getD (dg d 2).toNat 0, hexL.getD (dg d 3).toNat 0, hexL.getD (dg d 4).toNat 0, hexL.getD (dg d 5).toNat 0, hexL.getD (dg d 6).toNat 0, hexL.getD (dg d 7).toNat 0] := rfl
      have g0 : dg d 0 = v0 := by rw [dg0 d d0 d1]; omega
      have g1 : dg d 1 = v1 := by rw [dg1 d d0 d1]; omega
      have g2 : dg d 2 = v2 := by rw [dg2 d d0 d1]; omega
      have g3 : dg d 3 = v3 := by rw [dg3 d d0 d1]; omega
      have g4 : dg d 4 = v4 := by rw [dg4 d d0 d1]; omega
      have g5 : dg d 5 = v5 := by rw [dg5 d d0 d1]; omega
      have g6 : dg d 6 = v6 := by rw [dg6 d d0 d1]; omega
      have g7 : dg d 7 = v7 := by rw [dg7 d d0 d1]; omega
      rw [e, e', g0, g1, g2, g3, g4, g5, g6, g7]
      simp only [List.map_cons, List.map_nil, q0, q1, q2, q3, q4, q5, q6, q7]
  · rw [if_neg hl] at h; cases h
theorem hexW_back : ∀ {ws : List Bs} {ds : List Int}, ws.mapM hexW = some ds → ds.map hexB = ws ∧ ∀ c ∈ ds, 0 ≤ c ∧ c ≤ 4294967295
  | [], ds, h => by simp at h; subst h; simp
  | w :: ws, ds, h => by
    rw [List.mapM_cons] at h
    cases hd : hexW w with
    | none => rw [hd] at h; simp at h
    | some d =>
      rw [hd] at h
      cases hr : ws.mapM hexW with
      | none => rw [hr] at h; simp at h
      | some r =>
        rw [hr] at h
        simp at h
        subst h
        obtain ⟨i1, i2⟩ := hexW_back hr
        obtain ⟨j1, j2⟩ := hexW_pv hd
        exact ⟨by rw [List.map_cons, i1, j1], fun c hc => (List.mem_cons.1 hc).elim (fun e => e ▸ j2) (i2 c)⟩
theorem parseM_iff {t : Bs} {n : Bs} {ds : List Int} : parseM t = some (n, ds) ↔ FitM n ds ∧ imageB n ds = t := by
  constructor
  · intro h
    unfold parseM at h
    by_cases hl : t.getLast? = some 10
    · rw [if_pos hl] at h
      have ht : t = t.dropLast ++ [10] := by
        rw [List.getLast?_eq_some_iff] at hl
        obtain ⟨ys, rfl⟩ := hl
        simp
      unfold readM at h
      split at h
      · rename_i a n' r hc
        by_cases ha : a = imageW
        · rw [if_pos ha] at h
          split at h
          · rename_i ds' hm
            by_cases hf : manFault n' ds' = 0
            · rw [if_pos hf] at h
              cases h
              refine ⟨manFault_fit.1 hf, ?_⟩
              rw [ht]
              unfold imageB wordsM
              rw [(hexW_back hm).1, ← ha, ← hc, joinC_cut]
            · rw [if_neg hf] at h; cases h
          · cases h
        · rw [if_neg ha] at h; cases h
      · cases h
    · rw [if_neg hl] at h; cases h
  · rintro ⟨h, rfl⟩
    exact parseM_of h
theorem parseM_none {t : Bs} (h : ∀ n ds, FitM n ds → imageB n ds ≠ t) : parseM t = none := by
  cases e : parseM t with
  | none => rfl
  | some x => obtain ⟨n, ds⟩ := x; exact absurd (parseM_iff.1 e).2 (h n ds (parseM_iff.1 e).1)

/-- The text but for a line feed at its end. -/
def trimL (t : Bs) : Bs := if t.getLast? = some 10 then t.dropLast else t
/-- What the program's reader reads, ahead of the look whether it is told so. -/
def readP (t : Bs) : Option (Bs × List Int) :=
  match cutC 32 (trimL t) with
  | _ :: n :: d :: r => ((d :: r).mapM hexW).map fun ds => (n, ds)
  | _ => none
theorem readP_of {n : Bs} {ds : List Int} (h : FitM n ds) : readP (imageB n ds) = some (n, ds) := by
  unfold readP trimL
  rw [if_pos (imageB_last n ds).1, (imageB_last n ds).2, cut_image h.name]
  obtain ⟨d, r, hd⟩ : ∃ d r, ds = d :: r := by
    cases ds with
    | nil => exact absurd rfl h.some
    | cons d r => exact ⟨d, r, rfl⟩
  simp only [wordsM, hd, List.map_cons]
  have := hexW_all h.digs
  rw [hd, List.map_cons] at this
  rw [this]
  rfl
theorem parse_read {t : Bs} {n : Bs} {ds : List Int} (h : readP t = some (n, ds)) (hf : manFault n ds = 0) (ht : imageB n ds = t) : parseM t = some (n, ds) := parseM_iff.2 ⟨manFault_fit.1 hf, ht⟩
theorem parse_not {t : Bs} {n : Bs} {ds : List Int} (h : readP t = some (n, ds)) (hf : manFault n ds ≠ 0 ∨ imageB n ds ≠ t) : parseM t = none := by
  apply parseM_none
  rintro n' ds' hF rfl
  rw [readP_of hF] at h
  cases h
  rcases hf with h | h
  · exact h (manFault_fit.2 hF)
  · exact h rfl
theorem parse_unread {t : Bs} (h : readP t = none) : parseM t = none := by
  apply parseM_none
  rintro n' ds' hF rfl
  rw [readP_of hF] at h
  cases h
end Go.Proofs.YtcknabinmbknaaaGreatDoor

namespace Go.Proofs.YtcknabinmbknaaaGreatDoor
open Go.RowKit
set_option linter.unusedVariables false

theorem joinC_lib (m : UInt8) : ∀ (ps : List Bs), Lib.join ps [m] = joinC m ps
  | [] => rfl
  | [p] => by simp [Lib.join_cons, Lib.joinTail, joinC]
  | p :: q :: r => by
    have ih := joinC_lib m (q :: r)
    rw [Lib.join_cons] at ih ⊢
    simp only [Lib.joinTail, List.map_cons, List.flatten_cons, joinC, List.cons_append, List.nil_append] at ih ⊢
    rw [ih]

/-- What the model has cut up to byte k, the piece at hand beginning at j. -/
def cutAtC (m : UInt8) (l : Bs) (q : List Bs) (j k : Nat) : Prop := (k ≤ l.length → cutC m (l.take k) = q ++ [(l.drop j).take (k - j)]) ∧ (l.length < k → q = cutC m l)
theorem cutAtC_zero (m : UInt8) (l : Bs) : cutAtC m l [] 0 0 := ⟨fun _ => by simp [cutC], fun h => by omega⟩
theorem cutAtC_end {m : UInt8} {l : Bs} {q : List Bs} {j : Nat} (h : cutAtC m l q j l.length) : cutAtC m l (q ++ [(l.drop j).take (l.length - j)]) (l.length + 1) (l.length + 1) := by
  refine ⟨fun h => by omega, fun _ => ?_⟩
  rw [← h.1 (Nat.le_refl _), List.take_length]
theorem cutAtC_hit {m : UInt8} {s : ByteArray} {q : List Bs} {j k : Nat} (h : cutAtC m s.data.toList q j k) (hk : k < s.size) (hj : j ≤ k) (hc : s[k] = m) : cutAtC m s.data.toList (q ++ [(s.data.toList.drop j).take (k - j)]) (k + 1) (k + 1) := by
  have hl : s.data.toList.length = s.size := (Lib.size_eq s).symm
  refine ⟨fun _ => ?_, fun h' => by omega⟩
  rw [small_take_snoc s k hk, cutC_snoc _ _ _ _ (h.1 (by omega)), if_pos hc]
  simp
theorem cutAtC_miss {m : UInt8} {s : ByteArray} {q : List Bs} {j k : Nat} (h : cutAtC m s.data.toList q j k) (hk : k < s.size) (hj : j ≤ k) (hc : s[k] ≠ m) : cutAtC m s.data.toList q j (k + 1) := by
  have hl : s.data.toList.length = s.size := (Lib.size_eq s).symm
  refine ⟨fun _ => ?_, fun h' => by omega⟩
  rw [small_take_snoc s k hk, cutC_snoc _ _ _ _ (h.1 (by omega)), if_neg hc, take_piece s hj hk]

set_option maxRecDepth 100000 in
set_option maxHeartbeats 1600000 in
theorem l3CutC_any (m : UInt8) (s : ByteArray) (w : World) (hs : s.size ≤ 2097152) :
    Calls Tryz.prog 62 #[.string s, .int .u8 m.toNat] w fun e w' => ∃ v, e = .returned v ∧ OwnS w.heap.size w' v (cutC m s.data.toList) ∧ Below w.heap.size w w' := by
  obtain ⟨i1, ki, kz0, kz1, kz2⟩ := info_parts infoS
  have hl : s.data.toList.length = s.size := (Lib.size_eq s).symm
  have HL := hide hl
  clear hl
  have O1 := hide (World.ownsRow_made (base := w.heap.size) (e := 9) (size := 1) w #[] 0 (Nat.le_refl _) (Nat.zero_le _) rfl)
  have hm0 := m.toNat_lt
  go_enter Tryz.func62, Tryz.ntmps62
  go_wp2_with fail
  go_loopw [5, 6, 7] (fun v f i wr => ∃ (k j : Nat) (q : List Bs), k ≤ s.size + 1 ∧ j ≤ k ∧ q.length ≤ k ∧ i = .int .i64 k ∧ f = .int .i64 j ∧ Hid (OwnS w.heap.size wr v q) ∧ Hid (cutAtC m s.data.toList q j k) ∧ Hid (Below w.heap.size w wr)) (fun _ _ i _ => s.size + 1 - (intOf i).toNat)
  case atStart => exact ⟨0, 0, [], by omega, by omega, by simp, rfl, rfl, hide O1.out, hide (cutAtC_zero m _), hide (below_alloc _ _)⟩
  case round =>
    obtain ⟨k, j, q, hk, hj, hq, rfl, rfl, HO, HC, HB⟩ := hrel
    obtain ⟨va, vc, rfl⟩ := HO.out.shape
    have hm1 : q.length + 1 ≤ maxLen := by unfold maxLen; omega
    have hm2 : (q.length + 1) * 16 ≤ 140737488355328 := by omega
    have hsz := HB.out.size
    have HX := hide (show s.extract j k = str ((s.data.toList.drop j).take (k - j)) from Lib.extract_eq s j k)
    by_cases hlt : k < s.size
    · by_cases hc : (s[k].toNat : Int) = m.toNat
      · have hne : ((k : Int) == (s.size : Int)) = false := by simp; omega
        have HN := hide (cutAtC_hit HC.out hlt hj (by apply UInt8.toNat_inj.1; omega))
        go_wp2_with (at_builtin; refine wpList_append_one rfl (.tmp 26) (.tmp 31) 59 rfl w.heap.size 9 i1 (.string ⟨#[]⟩) 1 16 Tryz.underlying59 ki kz0 kz1 kz2 rfl (by decide) _ _ _ rfl HO.out rfl rfl (by intro u hu; simp at hu; subst hu; rfl) hm1 hm2 hsz ?_; intro v' w2 hown2 hkept; have O2 := hide hown2; have K2 := hide hkept; clear hown2 hkept)
        go_roundw
        case rel => exact ⟨k + 1, k + 1, q ++ [(s.data.toList.drop j).take (k - j)], by omega, by omega, by simp; omega, by go_num, by go_num, hide (OwnS.snoc O2.out HX.out), HN, hide (Kept.below_own HB.out hsz HO.out K2.out)⟩
        case measure => simp [intOf]; omega
      · have hne : ((k : Int) == (s.size : Int)) = false := by simp; omega
        have hne2 : ((s[k].toNat : Int) == (m.toNat : Int)) = false := by simp; omega
        have HN := hide (cutAtC_miss HC.out hlt hj (by intro e; apply hc; rw [e]))
        go_wp2
        go_roundw
        case rel => exact ⟨k + 1, j, q, by omega, by omega, by omega, by go_num, rfl, HO, HN, HB⟩
        case measure => simp [intOf]; omega
    · by_cases hk2 : k = s.size
      · subst hk2
        have HN := hide (show cutAtC m s.data.toList (q ++ [(s.data.toList.drop j).take (s.size - j)]) (s.size + 1) (s.size + 1) by have h := HC.out; rw [← HL.out] at h ⊢; exact cutAtC_end h)
        go_wp2_with (at_builtin; refine wpList_append_one rfl (.tmp 26) (.tmp 31) 59 rfl w.heap.size 9 i1 (.string ⟨#[]⟩) 1 16 Tryz.underlying59 ki kz0 kz1 kz2 rfl (by decide) _ _ _ rfl HO.out rfl rfl (by intro u hu; simp at hu; subst hu; rfl) hm1 hm2 hsz ?_; intro v' w2 hown2 hkept; have O2 := hide hown2; have K2 := hide hkept; clear hown2 hkept)
        go_roundw
        case rel => exact ⟨s.size + 1, s.size + 1, q ++ [(s.data.toList.drop j).take (s.size - j)], by omega, by omega, by simp; omega, by go_num, by go_num, hide (OwnS.snoc O2.out HX.out), HN, hide (Kept.below_own HB.out hsz HO.out K2.out)⟩
        case measure => simp [intOf]
      · have hk3 : ¬ (k : Int) ≤ (s.size : Int) := by omega
        have HN := hide (HC.out.2 (by rw [HL.out]; omega))
        go_wp2
        go_ret
        exact ⟨_, rfl, by rw [← HN.out]; exact HO.out, HB.out⟩

theorem indexMark_any (m : UInt8) (s : ByteArray) (w : World) :
    Calls Tryz.prog 136 #[.string s, .string ⟨#[m]⟩] w fun e w' => e = .returned (.int .i64 (Lib.indexByte s.data.toList m)) ∧ w' = w :=
  Any.stringslite_Index_one Tryz.indexA s m w

theorem indexC_miss {m : UInt8} {l : Bs} (h : m ∉ l) : Lib.indexByte l m = -1 := by
  induction l with
  | nil => rfl
  | cons c l ih =>
    have h1 : ¬ c = m := fun e => h (by simp [e])
    have h2 : m ∉ l := fun e => h (by simp [e])
    simp [Lib.indexByte, h1, ih h2]
theorem indexC_hit {m : UInt8} {a : Bs} (b : Bs) (h : m ∉ a) : Lib.indexByte (a ++ m :: b) m = a.length := by
  induction a with
  | nil => simp [Lib.indexByte]
  | cons c a ih =>
    have h1 : ¬ c = m := fun e => h (by simp [e])
    have h2 : m ∉ a := fun e => h (by simp [e])
    have ih := ih h2
    simp only [List.cons_append, Lib.indexByte, ih]
    have : ((a.length : Int) == -1) = false := by simp
    simp [h1, this]

set_option maxRecDepth 100000 in
set_option maxHeartbeats 800000 in
theorem cutLiteC_miss (m : UInt8) (l : Bs) (w : World) (h : m ∉ l) :
    Calls Tryz.prog 124 #[.string (str l), .string ⟨#[m]⟩] w fun e w' => e = .returned (.tuple #[.string (str l), .string ⟨#[]⟩, .bool false]) ∧ ∃ n, w' = w.drewN n := by
  have HI := hide (indexC_miss h)
  go_enter Tryz.func124, Tryz.ntmps124
  go_wp2_with (go_at_call 136; refine (indexMark_any _ _ _).mono ?_; rintro e w' ⟨rfl, rfl⟩; rw [str_data, HI.out])
  go_ret3
  exact ⟨rfl, 0, rfl⟩
theorem cutStr_miss (m : UInt8) (l : Bs) (w : World) (h : m ∉ l) :
    Calls Tryz.prog 95 #[.string (str l), .string ⟨#[m]⟩] w fun e w' => e = .returned (.tuple #[.string (str l), .string ⟨#[]⟩, .bool false]) ∧ ∃ n, w' = w.drewN n := by
  go_enter Tryz.func95, Tryz.ntmps95
  go_wp2_with (go_at_call 124; refine (cutLiteC_miss _ _ _ h).mono ?_; rintro e w' ⟨rfl, n, rfl⟩)
  go_ret3
  exact ⟨rfl, n, rfl⟩
set_option maxRecDepth 100000 in
set_option maxHeartbeats 800000 in
theorem cutLiteC_hit (m : UInt8) (a b : Bs) (w : World) (h : m ∉ a) (hl : a.length ≤ 9223372036854775806) :
    Calls Tryz.prog 124 #[.string (str (a ++ m :: b)), .string ⟨#[m]⟩] w fun e w' => e = .returned (.tuple #[.string (str a), .string (str b), .bool true]) ∧ ∃ n, w' = w.drewN n := by
  have HI := hide (indexC_hit b h)
  have c0 : (0 : Int) ≤ a.length := by omega
  have c1 : (a.length : Int) ≤ ((str (a ++ m :: b)).size : Int) := by rw [str_size]; simp; omega
  have c2 : (a.length : Int) + 1 ≤ ((str (a ++ m :: b)).size : Int) := by rw [str_size]; simp; omega
  have HA := hide (show (str (a ++ m :: b)).extract 0 a.length = str a by rw [Lib.extract_eq, str_data]; simp [str])
  have HB := hide (show (str (a ++ m :: b)).extract (a.length + 1) (str (a ++ m :: b)).size = str b by rw [Lib.extract_eq, str_data, str_size, show (a ++ m :: b).drop (a.length + 1) = b by simp, List.take_of_length_le (by simp; omega)]; rfl)
  have hm : (a.length : Int) ≤ 9223372036854775806 := by omega
  generalize hx : str (a ++ m :: b) = x at *
  have HX := hide hx
  clear hx
  go_enter Tryz.func124, Tryz.ntmps124
  go_wp2_with (go_at_call 136; refine (indexMark_any _ _ _).mono ?_; rintro e w' ⟨rfl, rfl⟩; rw [← HX.out, str_data, HI.out, HX.out])
  go_region
  go_wp2
  go_ret3
  exact ⟨by rw [HA.out, HB.out]; rfl, 1, rfl⟩
theorem cutStr_hit (m : UInt8) (a b : Bs) (w : World) (h : m ∉ a) (hl : a.length ≤ 9223372036854775806) :
    Calls Tryz.prog 95 #[.string (str (a ++ m :: b)), .string ⟨#[m]⟩] w fun e w' => e = .returned (.tuple #[.string (str a), .string (str b), .bool true]) ∧ ∃ n, w' = w.drewN n := by
  go_enter Tryz.func95, Tryz.ntmps95
  go_wp2_with (go_at_call 124; refine (cutLiteC_hit _ _ _ _ h hl).mono ?_; rintro e w' ⟨rfl, n, rfl⟩)
  go_ret3
  exact ⟨rfl, n, rfl⟩

end Go.Proofs.YtcknabinmbknaaaGreatDoor

namespace Go.Proofs.YtcknabinmbknaaaGreatDoor
open Go.RowKit
set_option linter.unusedVariables false

theorem wpList_app {P : Program} {w : World} {ops : Array Oper} {rest : List Oper} {o : Oper} {a : Act} {Q : Exit → Act → World → Prop} (hgd : o.guard = none) (s x : Operand) (t : TypeId)
    (ho : o.op = .call { callee := .builtin .append, args := #[s, x], argTypes := #[t, t] })
    (base : Nat) (e : TypeId) (i : TypeInfo) (z : Value) (size bytes : Nat) (ht : P.underlying t = some (.slice e)) (hi : P.info? e = some i) (hz : i.zero = some z)
    (hsize : i.size = size) (hby : i.bytes = bytes) (hzs : z.cells.size = size) (hsz : 0 < size)
    (v : Value) (n : Nat) (xs : List Value) (hs : a.eval s = v) (hown : w.ownsRow base e size v n xs)
    (ad : Addr) (m c : Nat) (news : List Value) (hx : a.eval x = .slice (some ad) m c) (hl : news.length = m * size) (hnews : ∀ j u, news[j]? = some u → w.cell? (ad.add j) = some u) (h1 : ∀ u ∈ news, u.oneCell' = true)
    (N : Nat) (hN : n + m = N) (h63 : n + m ≤ maxLen) (hbytes : (n + m) * bytes ≤ 140737488355328) (hbase : base ≤ w.heap.size)
    (h : ∀ av cv w', w'.ownsRow base e size (.slice av N cv) N (xs ++ news) → Kept (fun b => v.ownBlock = some b) w w' → wpList P ops Q rest (a.put o.dst (.slice av N cv)) w') :
    wpList P ops Q (o :: rest) a w := by
  refine wpList_append_own w hgd s x t ho base e i z size bytes ht hi hz hsize hby hzs hsz v n xs hs hown ad m c news hx hl hnews h1 h63 hbytes hbase fun v' w' h2 h3 _ => ?_
  rw [hN] at h2
  obtain ⟨av, cv, rfl⟩ := ownsRow_shape h2
  exact h av cv w' h2 ⟨h3.os, h3.tape, h3.output, h3.size, fun q hq hn => h3.block q hq (fun e => hn e.symm)⟩
/-- append at a step of a region that draws its order. -/
theorem step_app {P : Program} {w : World} {ops : Array Oper} {o : Oper} {a : Act} {K : Act → World → Prop} {Q : Exit → Act → World → Prop} {E : Prop} (hgd : o.guard = none) (s x : Operand) (t : TypeId)
    (ho : o.op = .call { callee := .builtin .append, args := #[s, x], argTypes := #[t, t] })
    (base : Nat) (e : TypeId) (i : TypeInfo) (z : Value) (size bytes : Nat) (ht : P.underlying t = some (.slice e)) (hi : P.info? e = some i) (hz : i.zero = some z)
    (hsize : i.size = size) (hby : i.bytes = bytes) (hzs : z.cells.size = size) (hsz : 0 < size)
    (v : Value) (n : Nat) (xs : List Value) (hs : a.eval s = v) (hown : w.ownsRow base e size v n xs)
    (ad : Addr) (m c : Nat) (news : List Value) (hx : a.eval x = .slice (some ad) m c) (hl : news.length = m * size) (hnews : ∀ j u, news[j]? = some u → w.cell? (ad.add j) = some u) (h1 : ∀ u ∈ news, u.oneCell' = true)
    (N : Nat) (hN : n + m = N) (h63 : n + m ≤ maxLen) (hbytes : (n + m) * bytes ≤ 140737488355328) (hbase : base ≤ w.heap.size)
    (h : ∀ av cv w', w'.ownsRow base e size (.slice av N cv) N (xs ++ news) → Kept (fun b => v.ownBlock = some b) w w' → K (a.put o.dst (.slice av N cv)) w') :
    if Region.wanted o (yielded ops a.tmps) = true then Oper.wp P o a w K Q else E := by
  have hw : Region.wanted o (yielded ops a.tmps) = true := by simp [Region.wanted, hgd]
  rw [if_pos hw]
  refine wp_append_own w s x t ho base e i z size bytes ht hi hz hsize hby hzs hsz v n xs hs hown ad m c news hx hl hnews h1 h63 hbytes hbase fun v' w' h2 h3 _ => ?_
  rw [hN] at h2
  obtain ⟨av, cv, rfl⟩ := ownsRow_shape h2
  exact h av cv w' h2 ⟨h3.os, h3.tape, h3.output, h3.size, fun q hq hn => h3.block q hq (fun e => hn e.symm)⟩
theorem addr_add (b o j : Nat) : (⟨b, o, none⟩ : Addr).add j = ⟨b, o + j, none⟩ := by unfold Addr.add; split <;> simp_all
end Go.Proofs.YtcknabinmbknaaaGreatDoor

namespace Go.Proofs.YtcknabinmbknaaaGreatDoor
open Go.RowKit
set_option linter.unusedVariables false
set_option maxRecDepth 100000

theorem snoc_at {α : Type} {l : List α} {k : Nat} {y : α} (h : l[k]? = some y) : l.take (k + 1) = l.take k ++ [y] := by
  obtain ⟨hk, he⟩ := List.getElem?_eq_some_iff.1 h
  rw [List.take_succ_eq_append_getElem hk, he]

theorem isDigest_any (n : Int) (w : World) : Calls Tryz.prog 107 #[.int .i64 n] w fun e w' => e = .returned (.bool (isDig n)) ∧ w' = w := by
  by_cases h : 0 ≤ n ∧ n ≤ 4294967295
  · have e : isDig n = true := by simp [isDig, h]
    rw [e]; exact implIsDigest_yes n w h.1 h.2
  · have e : isDig n = false := by simp [isDig]; omega
    rw [e]; exact implIsDigest_no n w (by omega)


set_option maxHeartbeats 1600000 in
theorem hexTexts_any (ds : List Int) (x : Option Addr) (c : Nat) (w : World) (h : Reads .i64 w x ds) (hd : ds.length ≤ 1048576) (hall : ∀ z ∈ ds, 0 ≤ z ∧ z ≤ 4294967295) :
    Calls Tryz.prog 72 #[.slice x ds.length c] w fun r w' => ∃ av cv, r = .returned (.slice av ds.length cv) ∧ OwnS w.heap.size w' (.slice av ds.length cv) (ds.map hexB) ∧ Below w.heap.size w w' := by
  have HR := hide h
  have HALL := hide hall
  clear h hall
  obtain ⟨i1, ki, kz0, kz1, kz2⟩ := info_parts infoS
  have hfd : ∀ (t : ByteArray) (w : World), (Instr.field 35 (.agg #[.int .i64 0, .string t]) 1).run Tryz.prog w = .ok (.string t) w := fun _ _ => by kernel_rfl
  go_enter Tryz.func72, Tryz.ntmps72
  go_wp2_with fail
  go_loopw [3, 5, 8] (fun v _ i wr => ∃ (k : Nat) (va : Option Addr) (vc : Nat), k ≤ ds.length ∧ i = .int .i64 k ∧ v = .slice va k vc ∧ Hid (wr.ownsRow w.heap.size 9 1 (.slice va k vc) k (((ds.take k).map hexB).map vS)) ∧ Hid (Below w.heap.size w wr)) (fun _ _ i _ => ds.length - (intOf i).toNat)
  case atStart => exact ⟨0, none, 0, Nat.zero_le _, rfl, rfl, hide (by simpa using World.ownsRow_nil _ _ _ _), hide (Below.refl _ _)⟩
  case round =>
    obtain ⟨k, va, vc, hk, rfl, rfl, HO, HB⟩ := hrel
    have hm1 : k + 1 ≤ maxLen := by unfold maxLen; omega
    have hm2 : (k + 1) * 16 ≤ 140737488355328 := by omega
    by_cases hlt : k < ds.length
    · obtain ⟨b, off, rfl, hb1, hcc⟩ := (HR.out.below HB.out) (by intro e; simp [e] at hlt)
      have hc1 := hcc k hlt
      have hzk : ds[k]? = some (ds.getD k 0) := by rw [List.getD_eq_getElem?_getD, List.getElem?_eq_getElem hlt]; rfl
      generalize ds.getD k 0 = y at hc1 hzk
      have HZ := hide hzk
      have HY := hide (HALL.out y (List.mem_of_getElem? hzk))
      clear hcc hzk
      go_wp2_with fail
      refine (implHexText_ok y _ HY.out.1 HY.out.2).mono ?_
      rintro r w1 ⟨rfl, hb1'⟩
      have HO1 := hide (ownsRow_below HO.out hb1')
      have HB1 := hide (below_next HB.out hb1')
      clear hb1' HO hc1
      have hsz := HB1.out.size
      go_wp2_with (at_builtin; refine wpList_append_one rfl (.tmp 12) (.tmp 16) 59 rfl w.heap.size 9 i1 (.string ⟨#[]⟩) 1 16 Tryz.underlying59 ki kz0 kz1 kz2 rfl (by decide) _ _ _ rfl HO1.out rfl rfl (by intro u hu; simp at hu; subst hu; rfl) hm1 hm2 hsz ?_; intro v' w2 hown2 hkept; have O2 := hide hown2; have K2 := hide hkept; clear hown2 hkept)
      obtain ⟨va2, vc2, hv2⟩ := ownsRow_shape O2.out
      subst hv2
      go_roundw
      case rel => exact ⟨k + 1, va2, vc2, by omega, by go_num, rfl, hide (by have h2 := O2.out; rw [snoc_at HZ.out, List.map_append, List.map_append]; rw [← str_hexB y] at h2; exact h2), hide (Kept.below_own HB1.out hsz HO1.out K2.out)⟩
      case measure => simp [intOf]; omega
    · have hk' : k = ds.length := by omega
      subst hk'
      have HO1 := hide (show OwnS w.heap.size wr (.slice va ds.length vc) (ds.map hexB) by have := HO.out; rw [List.take_length] at this; unfold OwnS; rw [List.length_map]; exact this)
      clear HO
      go_wp2_with fail
      go_ret
      exact ⟨va, vc, rfl, HO1.out, HB.out⟩
end Go.Proofs.YtcknabinmbknaaaGreatDoor

namespace Go.Proofs.YtcknabinmbknaaaGreatDoor
set_option linter.unusedVariables false

theorem packText_bad {n : Bs} {ds : List Int} (h : manFault n ds ≠ 0) : packText n ds = [] := by simp [packText, h]
theorem packText_good {n : Bs} {ds : List Int} (h : manFault n ds = 0) : packText n ds = imageB n ds := by simp [packText, h]

theorem joinC_bound {m : UInt8} {K : Nat} : ∀ (ps : List Bs), (∀ p ∈ ps, p.length ≤ K) → (joinC m ps).length ≤ ps.length * (K + 1)
  | [], _ => by simp [joinC]
  | [p], h => by have := h p (by simp); simp [joinC]; omega
  | p :: q :: r, h => by
    have h1 := h p (by simp)
    have h2 := joinC_bound (m := m) (q :: r) (fun x hx => h x (by simp at hx ⊢; exact .inr hx))
    have e : (joinC m (p :: q :: r)).length = p.length + ((joinC m (q :: r)).length + 1) := by simp [joinC]
    rw [e, List.length_cons, Nat.succ_mul]
    omega
theorem wordsM_bound {n : Bs} {ds : List Int} (h : FitM n ds) : (joinC 32 (wordsM n ds)).length ≤ 45 := by
  have h1 := joinC_bound (m := 32) (K := 8) (wordsM n ds) (fun p hp => by
    simp only [wordsM, List.mem_cons, List.mem_map] at hp
    rcases hp with rfl | rfl | ⟨z, -, rfl⟩
    · decide
    · have := h.len; omega
    · exact Nat.le_of_eq (hexB_length z))
  have h2 : (wordsM n ds).length = 2 + ds.length := by simp [wordsM]; omega
  have := h.many
  rw [h2] at h1
  omega
end Go.Proofs.YtcknabinmbknaaaGreatDoor

namespace Go.Proofs.YtcknabinmbknaaaGreatDoor
open Go.RowKit
set_option linter.unusedVariables false
set_option maxRecDepth 100000

theorem joinMark_any (m : UInt8) (a : Option Addr) (c n : Nat) (ps : List Bs) (w : World) (h : ReadsS w a ps) (hne : ps ≠ []) (hn : n = ps.length) (hc : n ≤ c) (hs : ps.length ≤ 1048576) (hl : (joinC m ps).length ≤ 140737488355328) :
    Calls Tryz.prog 40 #[.slice a n c, .string ⟨#[m]⟩] w fun e w' => e = .returned (.string (str (joinC m ps))) ∧ Below w.heap.size w w' := by
  obtain ⟨b, off, rfl, hb, hcell⟩ := h hne
  have mapstr : (ps.map str).map (fun x => x.data.toList) = ps := by
    rw [List.map_map]
    conv => rhs; rw [← List.map_id ps]
    apply List.map_congr_left
    intro p _
    exact str_data p
  have := Any.strings_Join Tryz.joinA Tryz.joinX b off c (ps.map str) ⟨#[m]⟩ w
    (fun j x hx => by
      rw [List.getElem?_map] at hx
      cases e : ps[j]? with
      | none => rw [e] at hx; simp at hx
      | some p =>
        rw [e] at hx
        simp at hx
        obtain ⟨hj, _⟩ := List.getElem?_eq_some_iff.1 e
        rw [hcell j hj, ← hx]
        simp [List.getD_eq_getElem?_getD, e])
    hb (by simp; omega) (by simp; omega)
    (by rw [mapstr]; show (Lib.join ps [m]).length ≤ _; rw [joinC_lib]; omega)
  rw [mapstr, List.length_map, ← hn] at this
  have e : Lib.join ps [m] = joinC m ps := joinC_lib m ps
  rw [← e]
  exact this

theorem own_full {base n : Nat} {e : TypeId} (w : World) (cur : Array Value) (hb : base ≤ w.heap.size) (hm : n ≤ maxLen) (hs : cur.size = n) :
    (w.alloc (.cells cur e)).ownsRow base e 1 (.slice (some ⟨w.heap.size, 0, none⟩) n n) n cur.toList :=
  ⟨by simp [hs], .inr ⟨w.heap.size, n, cur, rfl, hb, heap_alloc_new w _, Nat.le_refl _, hm, by omega, by rw [Nat.mul_one, ← hs, ← Array.length_toList, List.take_length]⟩⟩
theorem news_strs {w : World} {b off : Nat} {ps : List Bs} (h : ∀ i, i < ps.length → w.cell? ⟨b, off + i, none⟩ = some (.string (str (ps.getD i [])))) : ∀ j u, (ps.map vS)[j]? = some u → w.cell? ((⟨b, off, none⟩ : Addr).add j) = some u := by
  intro j u hj
  rw [addr_add]
  rw [List.getElem?_map] at hj
  cases e : ps[j]? with
  | none => rw [e] at hj; simp at hj
  | some p =>
    rw [e] at hj
    simp at hj
    obtain ⟨hl, _⟩ := List.getElem?_eq_some_iff.1 e
    rw [h j hl, ← hj]
    simp [List.getD_eq_getElem?_getD, e, vS]

end Go.Proofs.YtcknabinmbknaaaGreatDoor
