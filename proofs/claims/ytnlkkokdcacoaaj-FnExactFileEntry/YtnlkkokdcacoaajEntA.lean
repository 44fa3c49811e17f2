/-
  The model's EntryAt, Without, DropBelow.
-/
import Derived.Test.YtnlkkokdcacoaajEntC
namespace Go.Proofs.Ytnlkkokdcacoaaj
open Go.RowKit Go.Maps
set_option linter.unusedVariables false
attribute [local go_sem ↓] Go.wp_at_zero Go.wp_at_succ

theorem RdE.one {w : World} {b off : Nat} {es : List En} {k : Nat} {e : En} (h : RdE w (some ⟨b, off, none⟩) es) (he : es[k]? = some e) : RdE w (some ⟨b, off + k * 4, none⟩) [e] := by
  intro _
  have hk := (List.getElem?_eq_some_iff.1 he).1
  obtain ⟨b', off', A, C, e1, hb, hc⟩ := h (by intro e; simp [e] at hk)
  simp only [Option.some.injEq, Addr.mk.injEq, and_true] at e1
  obtain ⟨rfl, rfl⟩ := e1
  refine ⟨b, off + k * 4, fun _ => A k, fun _ => C k, rfl, hb, fun i x hx => ?_⟩
  have hi : i = 0 := by
    have := (List.getElem?_eq_some_iff.1 hx).1
    simp at this
    exact this
  subst hi
  simp only [List.getElem?_cons_zero, Option.some.injEq] at hx
  subst hx
  simp only [Nat.zero_mul, Nat.add_zero]
  exact hc k e he

/-- A result: a code and a layer of its own. -/
def ResE (q : Int) (es : List En) (w : World) (r : Ending) (w' : World) : Prop :=
  ∃ av cv, r = .returned (.agg #[.int .i64 q, .slice av es.length cv]) ∧ GE w.heap.size w'.heap.size w' (.slice av es.length cv) es ∧ Below w.heap.size w w'
theorem ResE.of {q : Int} {es : List En} {w w2 w3 : World} {B b n : Nat} {av : Option Addr} {cv : Nat} {u v : Value} (hB : b < B) (hw : w.heap.size ≤ b) (hn : n = es.length) (hG : GE B w3.heap.size w3 (.slice av n cv) es) (hb : Below w.heap.size w w3) :
    ResE q es w (.returned (.agg #[.int .i64 q, .slice av n cv])) ((w3.setCell ⟨b, 0, none⟩ u).setCell ⟨b, 1, none⟩ v) := by
  subst hn
  refine ⟨av, cv, rfl, ?_, (hb.setCell hw _).setCell hw _⟩
  have hs : ((w3.setCell ⟨b, 0, none⟩ u).setCell ⟨b, 1, none⟩ v).heap.size = w3.heap.size := by simp [World.setCell]
  rw [hs]
  exact (hG.kept (Kept.two w3 b 0 1 u v) (fun x h1 _ h2 => by omega)).mono (by omega)
theorem ResE.bad {q : Int} {w w3 : World} {b : Nat} {u v : Value} (hw : w.heap.size ≤ b) (hb : Below w.heap.size w w3) :
    ResE q [] w (.returned (.agg #[.int .i64 q, .slice none 0 0])) ((w3.setCell ⟨b, 0, none⟩ u).setCell ⟨b, 1, none⟩ v) :=
  ⟨none, 0, rfl, GE.nil _ _ _, (hb.setCell hw _).setCell hw _⟩

set_option maxRecDepth 100000 in
set_option maxHeartbeats 1600000 in
theorem specEntryAt_some (a : Option Addr) (c n : Nat) (es : List En) (p : Bs) (w : World) (h : RdE w a es) (hn : n = es.length) (hl : es.length ≤ 1048576) (hs : SmallE es) (hp : p.length ≤ 1048576) (hz : askE es p = 0) (k : Nat) (e : En) (ha : atE es p = some k) (he : es[k]? = some e) (hc : n ≤ c) :
    Calls Try.prog 19 #[.slice a n c, .string (str p)] w (ResE 0 [e] w) := by
  have hk := atE_lt ha
  obtain ⟨b, off, rfl⟩ : ∃ b off, a = some ⟨b, off, none⟩ := by
    obtain ⟨b, off, e', x, cc, e1, _⟩ := h.at hk
    exact ⟨b, off, e1⟩
  have HQ := hide (fun u hb => l4Asked_any (some ⟨b, off, none⟩) c n es p u (h.below hb) hn hl hs hp)
  have HR := hide h
  have hs1 : SmallE [e] := fun x hx => by simp only [List.mem_singleton] at hx; rw [hx]; exact hs e (List.mem_of_getElem? he)
  have HC := hide (fun (u : World) hb => l4Copy_any (some ⟨b, off + k * 4, none⟩) (c - k) 1 [e] u ((h.below hb).one he) rfl (by simp) hs1)
  have HAt := hide (fun (u : World) hb => l4At_any (some ⟨b, off, none⟩) c n es p u (h.below hb) hn hl)
  have HZ := hide hz
  have HA := hide ha
  clear h hs he hz ha hs1
  subst hn
  go_enter Try.func19, Try.ntmps19
  have X0 := hide (Box.new w (.int .i64 0) (.slice none 0 0) 39)
  have B0 := hide (below_alloc w (.cells #[.int .i64 0, .slice none 0 0] 39))
  go_wp2_with fail
  refine (HQ.out _ B0.out).mono ?_
  rintro r w1 ⟨rfl, hb1⟩
  rw [HZ.out]
  have B1 := hide (below_next B0.out hb1)
  have X1 := hide (X0.out.below hb1)
  clear hb1 X0 B0
  go_wp2_with fail
  refine (HAt.out _ B1.out).mono ?_
  rintro r w2 ⟨rfl, rfl⟩
  rw [HA.out]
  simp only [placeI]
  have hk1 : (k : Int) < (es.length : Int) := by omega
  have hk2 : (k : Int) + 1 ≤ (c : Int) := by omega
  go_wp2_with fail
  refine (HC.out _ B1.out).mono ?_
  rintro r w3 ⟨g, cv, rfl, hcv, hG, hb3⟩
  have hlt0 := X1.out.1.lt
  obtain ⟨⟨t0, t1⟩, t2, t3⟩ := X1.out.below hb3
  have GG := hide hG
  have B3 := hide (below_next B1.out hb3)
  clear hG hb3 X1
  go_wp2_with fail
  exact bodyPost_ret (v := .agg #[.int .i64 0, .slice (some ⟨g, 0, none⟩) 1 cv]) (by simp [results, Try.results19, go_sem, t0, t1]) rfl (ResE.of (w2 := w2) hlt0 (Nat.le_refl _) rfl GG.out B3.out)
set_option maxRecDepth 100000 in
set_option maxHeartbeats 1600000 in
theorem specEntryAt_none (a : Option Addr) (c n : Nat) (es : List En) (p : Bs) (w : World) (h : RdE w a es) (hn : n = es.length) (hl : es.length ≤ 1048576) (hs : SmallE es) (hp : p.length ≤ 1048576) (hz : askE es p = 0) (ha : atE es p = none) :
    Calls Try.prog 19 #[.slice a n c, .string (str p)] w (ResE 4 [] w) := by
  have HQ := hide (fun u hb => l4Asked_any a c n es p u (h.below hb) hn hl hs hp)
  have HAt := hide (fun (u : World) hb => l4At_any a c n es p u (h.below hb) hn hl)
  have HZ := hide hz
  have HA := hide ha
  clear h hs hz ha
  subst hn
  go_enter Try.func19, Try.ntmps19
  have X0 := hide (Box.new w (.int .i64 0) (.slice none 0 0) 39)
  have B0 := hide (below_alloc w (.cells #[.int .i64 0, .slice none 0 0] 39))
  go_wp2_with fail
  refine (HQ.out _ B0.out).mono ?_
  rintro r w1 ⟨rfl, hb1⟩
  rw [HZ.out]
  have B1 := hide (below_next B0.out hb1)
  have X1 := hide (X0.out.below hb1)
  clear hb1 X0 B0
  go_wp2_with fail
  refine (HAt.out _ B1.out).mono ?_
  rintro r w2 ⟨rfl, rfl⟩
  rw [HA.out]
  simp only [placeI]
  obtain ⟨⟨t0, t1⟩, t2, t3⟩ := X1.out
  go_wp2_with fail
  exact bodyPost_ret (v := .agg #[.int .i64 4, .slice none 0 0]) (by simp [results, Try.results19, go_sem, t0, t1]) rfl (ResE.bad (Nat.le_refl _) B1.out)
set_option maxRecDepth 100000 in
set_option maxHeartbeats 1600000 in
theorem specEntryAt_bad (a : Option Addr) (c n : Nat) (es : List En) (p : Bs) (w : World) (h : RdE w a es) (hn : n = es.length) (hl : es.length ≤ 1048576) (hs : SmallE es) (hp : p.length ≤ 1048576) (hz : askE es p ≠ 0) :
    Calls Try.prog 19 #[.slice a n c, .string (str p)] w (ResE (askE es p) [] w) := by
  have HQ := hide (fun u hb => l4Asked_any a c n es p u (h.below hb) hn hl hs hp)
  clear h hs
  subst hn
  generalize askE es p = F at *
  have hz2 : (F != 0) = true := by simp; exact hz
  clear hz
  go_enter Try.func19, Try.ntmps19
  have X0 := hide (Box.new w (.int .i64 0) (.slice none 0 0) 39)
  have B0 := hide (below_alloc w (.cells #[.int .i64 0, .slice none 0 0] 39))
  go_wp2_with fail
  refine (HQ.out _ B0.out).mono ?_
  rintro r w1 ⟨rfl, hb1⟩
  have B1 := hide (below_next B0.out hb1)
  obtain ⟨⟨t0, t1⟩, t2, t3⟩ := X0.out.below hb1
  clear hb1 X0 B0
  go_wp2_with fail
  exact bodyPost_ret (v := .agg #[.int .i64 F, .slice none 0 0]) (by simp [results, Try.results19, go_sem, t0, t1]) rfl (ResE.bad (Nat.le_refl _) B1.out)

/-- What EntryAt answers. -/
def findCode (es : List En) (p : Bs) : Int := if askE es p = 0 then (match atE es p with | some _ => 0 | none => 4) else askE es p
def findList (es : List En) (p : Bs) : List En := if askE es p = 0 then (match atE es p with | some k => (es[k]?).toList | none => []) else []
theorem specEntryAt_any (a : Option Addr) (c n : Nat) (es : List En) (p : Bs) (w : World) (h : RdE w a es) (hn : n = es.length) (hl : es.length ≤ 1048576) (hs : SmallE es) (hp : p.length ≤ 1048576) (hc : n ≤ c) :
    Calls Try.prog 19 #[.slice a n c, .string (str p)] w (ResE (findCode es p) (findList es p) w) := by
  by_cases hz : askE es p = 0
  · cases ha : atE es p with
    | none =>
      have e1 : findCode es p = 4 := by simp [findCode, hz, ha]
      have e2 : findList es p = [] := by simp [findList, hz, ha]
      rw [e1, e2]
      exact specEntryAt_none a c n es p w h hn hl hs hp hz ha
    | some k =>
      have hk := atE_lt ha
      have he : es[k]? = some es[k] := List.getElem?_eq_getElem hk
      have e1 : findCode es p = 0 := by simp [findCode, hz, ha]
      have e2 : findList es p = [es[k]] := by simp [findList, hz, ha, he]
      rw [e1, e2]
      exact specEntryAt_some a c n es p w h hn hl hs hp hz k _ ha he hc
  · have e1 : findCode es p = askE es p := by simp [findCode, hz]
    have e2 : findList es p = [] := by simp [findList, hz]
    rw [e1, e2]
    exact specEntryAt_bad a c n es p w h hn hl hs hp hz

end Go.Proofs.Ytnlkkokdcacoaaj
