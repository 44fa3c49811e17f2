/-
  The program's ParseManifest: what cannot be read is a panic that is recovered.
-/
import Derived.Test.YtmehngcbafdcgaaDoorRdN
import Derived.Defers
import Derived.Recover
import Derived.Laws.Pointers
namespace Go.Proofs.YtmehngcbafdcgaaDoor
open Go.RowKit
set_option linter.unusedVariables false
set_option maxRecDepth 100000

/-- A block of three cells that may be written. -/
def Three (w : World) (b : Nat) (u0 u1 u2 : Value) : Prop := (w.cell? ⟨b, 0, none⟩ = some u0 ∧ w.cell? ⟨b, 1, none⟩ = some u1 ∧ w.cell? ⟨b, 2, none⟩ = some u2) ∧ w.frozen? ⟨b, 0, none⟩ = false ∧ w.frozen? ⟨b, 1, none⟩ = false ∧ w.frozen? ⟨b, 2, none⟩ = false
theorem Three.new (w : World) (u0 u1 u2 : Value) (t : TypeId) : Three (w.alloc (.cells #[u0, u1, u2] t)) w.heap.size u0 u1 u2 := ⟨⟨by simp, by simp, by simp⟩, by simp, by simp, by simp⟩
theorem Three.below {w w' : World} {b : Nat} {u0 u1 u2 : Value} (h : Three w b u0 u1 u2) (hk : Below w.heap.size w w') : Three w' b u0 u1 u2 := by
  have hlt : b < w.heap.size := World.block_lt_of_cell? w ⟨b, 0, none⟩ h.1.1
  exact ⟨⟨(hk.cell (p := ⟨b, 0, none⟩) hlt).trans h.1.1, (hk.cell (p := ⟨b, 1, none⟩) hlt).trans h.1.2.1, (hk.cell (p := ⟨b, 2, none⟩) hlt).trans h.1.2.2⟩, (hk.frozen (p := ⟨b, 0, none⟩) hlt).trans h.2.1, (hk.frozen (p := ⟨b, 1, none⟩) hlt).trans h.2.2.1, (hk.frozen (p := ⟨b, 2, none⟩) hlt).trans h.2.2.2⟩

theorem catchM_panicking (b : Nat) (u0 u1 u2 : Value) (u : TypeId) (vp : Value) (older : List PanicEntry) (w : World) (hx : Three w b u0 u1 u2) :
    CallsD Tryd.prog 17 #[.pointer (some ⟨b, 0, none⟩)] (.panicking ({ v := .iface u vp, recovered := false } :: older)) w fun e u' w' =>
      e = .returned (.tuple #[]) ∧ u' = .panicking ({ v := .iface u vp, recovered := true } :: older) ∧ w' = ((w.setCell ⟨b, 0, none⟩ (.int .i64 5)).setCell ⟨b, 1, none⟩ (.string ⟨#[]⟩)).setCell ⟨b, 2, none⟩ (.slice none 0 0) := by
  obtain ⟨⟨t0, t1, t2⟩, z0, z1, z2⟩ := hx
  refine callsD_of_wpS Tryd.func17 rfl fun c₀ cs hu => ?_
  apply wpS_seq
  apply wpS_region
  simp [wpOpsS, go_sem, recoverD, hu, Tryd.ntmps17, Exit.thenS]
  refine wpS_cond (t := true) (by simp [Act.eval, Array.replicate]) ?_
  simp only [if_true]
  apply wpS_region
  simp [wpOpsS, go_sem, t0, t1, t2, z0, z1, z2, bodyPostS, results, Tryd.results17]
theorem catchM_idle (p : Addr) (w : World) :
    CallsD Tryd.prog 17 #[.pointer (some p)] .returning w fun e u' w' => e = .returned (.tuple #[]) ∧ u' = .returning ∧ w' = w := by
  refine callsD_of_wpS Tryd.func17 rfl fun c₀ cs hu => ?_
  apply wpS_seq
  apply wpS_region
  simp [wpOpsS, go_sem, recoverD, hu, Tryd.ntmps17, Exit.thenS]
  refine wpS_cond (t := false) (by simp [Act.eval, Array.replicate]) ?_
  simp only [Bool.false_eq_true, if_false]
  refine wpS_of_wp (wp_skip ?_)
  cases c₀
  simp_all [bodyPostS, results, Tryd.results17]

set_option maxHeartbeats 3200000 in
theorem implParseManifest_unread (t : Bs) (u : TypeId) (vp : Value) (w : World) (h : ∀ w1, w1.cell? ⟨0, 0, none⟩ = some (.iface u vp) → Calls Tryd.prog 18 #[.string (str t)] w1 fun r w' => r = Dies u vp ∧ Below w1.heap.size w1 w') (hg : w.cell? ⟨0, 0, none⟩ = some (.iface u vp)) :
    Calls Tryd.prog 6 #[.string (str t)] w fun r w' => r = .returned (.agg #[.int .i64 5, .string ⟨#[]⟩, .slice none 0 0]) ∧ Below w.heap.size w w' := by
  have hmf : ∀ (fn : Fn) (first cap : Array Value) (w : World), (Instr.makeFunc fn first cap).run Tryd.prog w = .ok (.func fn first cap) w := fun _ _ _ _ => rfl
  have HH := hide h
  have X0 := hide (Three.new w (.int .i64 0) (.string ⟨#[]⟩) (.slice none 0 0) 29)
  have B0 := hide (below_alloc w (.cells #[.int .i64 0, .string ⟨#[]⟩, .slice none 0 0] 29))
  have HG := hide ((B0.out.cell (p := ⟨0, 0, none⟩) (World.block_lt_of_cell? w ⟨0, 0, none⟩ hg)).trans hg)
  clear h hg
  go_enter_defers Tryd.func6, Tryd.ntmps6
  go_wp2_with fail
  refine (HH.out _ HG.out).mono ?_
  rintro r w1 ⟨rfl, b1⟩
  have X1 := X0.out.below b1
  have B1 := hide (below_next B0.out b1)
  clear b1
  go_wp2_with fail
  refine leaves_cons (f := 17) (args := #[.pointer (some ⟨w.heap.size, 0, none⟩)]) (by simp) (by simp [go_sem]) ?_
  refine (catchM_panicking w.heap.size _ _ _ u vp [] _ X1).mono ?_
  rintro e u' w'' ⟨rfl, rfl, rfl⟩
  obtain ⟨⟨t0, t1, t2⟩, z0, z1, z2⟩ := X1
  have hb := hide (((B1.out.setCell (p := ⟨w.heap.size, 0, none⟩) (Nat.le_refl _) (.int .i64 5)).setCell (p := ⟨w.heap.size, 1, none⟩) (Nat.le_refl _) (.string ⟨#[]⟩)).setCell (p := ⟨w.heap.size, 2, none⟩) (Nat.le_refl _) (.slice none 0 0))
  simp [Leaves, settle, results, Tryd.results6, go_sem, t0, t1, t2]
  exact hb.out

theorem ownIntsR {w : World} {B : Nat} {e : TypeId} {k : IntKind} {a : Option Addr} {n c : Nat} {zs : List Int} (h : w.ownsRow B e 1 (.slice a n c) n (zs.map (Value.int k))) (hn : n = zs.length) : Reads k w a zs := by
  intro hz
  have h0 : 0 < n := by rw [hn]; exact List.length_pos_iff.2 hz
  obtain ⟨g, cap, hv, hg, hgl, hc, hf⟩ := ownsRow_ints h hn h0
  simp only [Value.slice.injEq, true_and] at hv
  exact ⟨g, 0, hv.1, hgl, fun i hi => by rw [Nat.zero_add]; exact hc i (by omega)⟩
set_option maxHeartbeats 3200000 in
theorem implParseManifest_not (t n : Bs) (ds : List Int) (u : TypeId) (vp : Value) (w : World) (h : ∀ w1, w1.cell? ⟨0, 0, none⟩ = some (.iface u vp) → Calls Tryd.prog 18 #[.string (str t)] w1 fun r w' => (∃ av cv, r = .returned (.agg #[.string (str n), .slice av ds.length cv]) ∧ w'.ownsRow w1.heap.size 2 1 (.slice av ds.length cv) ds.length (ds.map (Value.int .i64))) ∧ Below w1.heap.size w1 w') (hn : n.length ≤ 2097152) (hd : ds.length ≤ 1048576) (hg : w.cell? ⟨0, 0, none⟩ = some (.iface u vp)) (hne : manFault n ds ≠ 0 ∨ packText n ds ≠ t) :
    Calls Tryd.prog 6 #[.string (str t)] w fun r w' => r = .returned (.agg #[.int .i64 5, .string ⟨#[]⟩, .slice none 0 0]) ∧ Below w.heap.size w w' := by
  have hmf : ∀ (fn : Fn) (first cap : Array Value) (w : World), (Instr.makeFunc fn first cap).run Tryd.prog w = .ok (.func fn first cap) w := fun _ _ _ _ => rfl
  have HH := hide h
  have X0 := hide (Three.new w (.int .i64 0) (.string ⟨#[]⟩) (.slice none 0 0) 29)
  have B0 := hide (below_alloc w (.cells #[.int .i64 0, .string ⟨#[]⟩, .slice none 0 0] 29))
  have HGB : Hid (∀ w' : World, Below w.heap.size w w' → w'.cell? ⟨0, 0, none⟩ = some (.iface u vp)) := hide (fun w' hb => (hb.cell (p := ⟨0, 0, none⟩) (World.block_lt_of_cell? w ⟨0, 0, none⟩ hg)).trans hg)
  clear h hg
  go_enter_defers Tryd.func6, Tryd.ntmps6
  go_wp2_with fail
  refine (HH.out _ (HGB.out _ B0.out)).mono ?_
  rintro r w1 ⟨⟨av, cv, rfl, hO⟩, b1⟩
  have A1 := hide (below_next b1 (below_alloc w1 (.cells #[.string (str n), .slice av ds.length cv] 27)))
  have M1 := hide (Box.new w1 (.string (str n)) (.slice av ds.length cv) 27)
  have O1 := hide (ownsRow_below hO (below_alloc w1 (.cells #[.string (str n), .slice av ds.length cv] 27)))
  have X1 := hide (X0.out.below A1.out)
  have B1 := hide (below_next B0.out A1.out)
  clear b1 hO X0 B0 A1
  go_wp2_with fail
  generalize w1.alloc (.cells #[.string (str n), .slice av ds.length cv] 27) = W1 at *
  generalize w1.heap.size = b1 at *
  obtain ⟨⟨m0, m1⟩, m2, m3⟩ := M1.out
  go_wp2_with fail
  refine (implPackManifest_any n ds av cv W1 (ownIntsR O1.out rfl) hn hd).mono ?_
  rintro r w2 ⟨rfl, b2⟩
  have X2 := hide (X1.out.below b2)
  have M2 := hide (M1.out.below b2)
  have O2 := hide (ownsRow_below O1.out b2)
  have B2 := hide (below_next B1.out b2)
  clear b2 X1 M1 O1 B1 m0 m1 m2 m3
  go_wp2_with fail
  refine (mustTell_no (manFault n ds) (packText n ds) t u vp w2 hne (fun w' hb => HGB.out _ (below_next B2.out hb))).mono ?_
  rintro r w3 ⟨rfl, b3⟩
  have X3 := X2.out.below b3
  have B3 := hide (below_next B2.out b3)
  clear b3
  go_wp2_with fail
  refine leaves_cons (f := 17) (args := #[.pointer (some ⟨w.heap.size, 0, none⟩)]) (by simp) (by simp [go_sem]) ?_
  refine (catchM_panicking w.heap.size _ _ _ u vp [] _ X3).mono ?_
  rintro e u' w'' ⟨rfl, rfl, rfl⟩
  obtain ⟨⟨t0, t1, t2⟩, z0, z1, z2⟩ := X3
  have hb := hide (((B3.out.setCell (p := ⟨w.heap.size, 0, none⟩) (Nat.le_refl _) (.int .i64 5)).setCell (p := ⟨w.heap.size, 1, none⟩) (Nat.le_refl _) (.string ⟨#[]⟩)).setCell (p := ⟨w.heap.size, 2, none⟩) (Nat.le_refl _) (.slice none 0 0))
  simp [Leaves, settle, results, Tryd.results6, go_sem, t0, t1, t2]
  exact hb.out
set_option maxHeartbeats 3200000 in
theorem implParseManifest_yes (t n : Bs) (ds : List Int) (u : TypeId) (vp : Value) (w : World) (h : ∀ w1, w1.cell? ⟨0, 0, none⟩ = some (.iface u vp) → Calls Tryd.prog 18 #[.string (str t)] w1 fun r w' => (∃ av cv, r = .returned (.agg #[.string (str n), .slice av ds.length cv]) ∧ w'.ownsRow w1.heap.size 2 1 (.slice av ds.length cv) ds.length (ds.map (Value.int .i64))) ∧ Below w1.heap.size w1 w') (hn : n.length ≤ 2097152) (hd : ds.length ≤ 1048576) (hg : w.cell? ⟨0, 0, none⟩ = some (.iface u vp)) (hf : manFault n ds = 0) (ht : packText n ds = t) :
    Calls Tryd.prog 6 #[.string (str t)] w fun r w' => (∃ av cv, r = .returned (.agg #[.int .i64 0, .string (str n), .slice av ds.length cv]) ∧ w'.ownsRow w.heap.size 2 1 (.slice av ds.length cv) ds.length (ds.map (Value.int .i64))) ∧ Below w.heap.size w w' := by
  have hmf : ∀ (fn : Fn) (first cap : Array Value) (w : World), (Instr.makeFunc fn first cap).run Tryd.prog w = .ok (.func fn first cap) w := fun _ _ _ _ => rfl
  have HH := hide h
  have X0 := hide (Three.new w (.int .i64 0) (.string ⟨#[]⟩) (.slice none 0 0) 29)
  have B0 := hide (below_alloc w (.cells #[.int .i64 0, .string ⟨#[]⟩, .slice none 0 0] 29))
  have HGB : Hid (∀ w' : World, Below w.heap.size w w' → w'.cell? ⟨0, 0, none⟩ = some (.iface u vp)) := hide (fun w' hb => (hb.cell (p := ⟨0, 0, none⟩) (World.block_lt_of_cell? w ⟨0, 0, none⟩ hg)).trans hg)
  clear h hg
  go_enter_defers Tryd.func6, Tryd.ntmps6
  go_wp2_with fail
  refine (HH.out _ (HGB.out _ B0.out)).mono ?_
  rintro r w1 ⟨⟨av, cv, rfl, hO⟩, b1⟩
  have A1 := hide (below_next b1 (below_alloc w1 (.cells #[.string (str n), .slice av ds.length cv] 27)))
  have M1 := hide (Box.new w1 (.string (str n)) (.slice av ds.length cv) 27)
  have O1 := hide (ownsRow_below hO (below_alloc w1 (.cells #[.string (str n), .slice av ds.length cv] 27)))
  have X1 := hide (X0.out.below A1.out)
  have B1 := hide (below_next B0.out A1.out)
  clear b1 hO X0 B0 A1
  go_wp2_with fail
  generalize w1.alloc (.cells #[.string (str n), .slice av ds.length cv] 27) = W1 at *
  generalize w1.heap.size = b1 at *
  obtain ⟨⟨m0, m1⟩, m2, m3⟩ := M1.out
  go_wp2_with fail
  refine (implPackManifest_any n ds av cv W1 (ownIntsR O1.out rfl) hn hd).mono ?_
  rintro r w2 ⟨rfl, b2⟩
  have X2 := hide (X1.out.below b2)
  have M2 := hide (M1.out.below b2)
  have O2 := hide (ownsRow_below O1.out b2)
  have B2 := hide (below_next B1.out b2)
  clear b2 X1 M1 O1 B1 m0 m1 m2 m3
  rw [hf, ht]
  go_wp2_with fail
  refine (mustTell_yes t w2).mono ?_
  rintro r w3 ⟨rfl, b3⟩
  obtain ⟨⟨m0, m1⟩, m2, m3⟩ := M2.out.below b3
  have X3 := X2.out.below b3
  have O3 := hide (ownsRow_below O2.out b3)
  have B3 := hide (below_next B2.out b3)
  obtain ⟨⟨t0, t1, t2⟩, z0, z1, z2⟩ := X3
  clear b3 X2 M2 O2 B2
  have KS : Kept (fun b => b = w.heap.size) w3 (((w3.setCell ⟨w.heap.size, 0, none⟩ (.int .i64 0)).setCell ⟨w.heap.size, 1, none⟩ (.string (str n))).setCell ⟨w.heap.size, 2, none⟩ (.slice av ds.length cv)) := Kept.setCell (S := fun b => b = w.heap.size) (p := ⟨w.heap.size, 2, none⟩) (Kept.setCell (S := fun b => b = w.heap.size) (p := ⟨w.heap.size, 1, none⟩) (Kept.setCell (S := fun b => b = w.heap.size) (p := ⟨w.heap.size, 0, none⟩) (Kept.refl _ _) (fun _ => rfl) _) (fun _ => rfl) _) (fun _ => rfl) _
  have OF := hide (ownsRow_mono (ownsRow_kept O3.out KS (fun b hb e => by have := O3.out.lt b hb; simp at this; omega)) (show w.heap.size ≤ _ by simp))
  have BF := hide (((B3.out.setCell (p := ⟨w.heap.size, 0, none⟩) (Nat.le_refl _) (.int .i64 0)).setCell (p := ⟨w.heap.size, 1, none⟩) (Nat.le_refl _) (.string (str n))).setCell (p := ⟨w.heap.size, 2, none⟩) (Nat.le_refl _) (.slice av ds.length cv))
  clear KS
  go_wp2_with fail
  refine leaves_cons (f := 17) (args := #[.pointer (some ⟨w.heap.size, 0, none⟩)]) (by simp) (by simp [go_sem]) ?_
  refine (catchM_idle ⟨w.heap.size, 0, none⟩ _).mono ?_
  rintro e u' w'' ⟨rfl, rfl, rfl⟩
  simp [Leaves, settle, results, Tryd.results6, go_sem, t0, t1, t2]
  exact ⟨⟨av, cv, ⟨rfl, rfl⟩, OF.out⟩, BF.out⟩

theorem readP_len {t n : Bs} {ds : List Int} (h : readP t = some (n, ds)) : n.length ≤ t.length ∧ ds.length ≤ t.length := by
  unfold readP at h
  have hT := trim_len t
  have h1 := cutC_length (m := 32) (trimL t)
  have h2 := cutC_each (m := 32) (trimL t)
  split at h
  · rename_i a m d r hc
    cases hm : (d :: r).mapM hexW with
    | none => rw [hm] at h; simp at h
    | some ds' =>
      rw [hm] at h
      simp at h
      obtain ⟨rfl, rfl⟩ := h
      have h3 := congrArg List.length (hexW_back hm).1
      rw [List.length_map] at h3
      rw [hc] at h1 h2
      simp only [List.length_cons] at h1 h3
      exact ⟨by have := h2 m (by simp); omega, by omega⟩
  · cases h
/-- What ParseManifest answers. -/
def ResM (o : Option (Bs × List Int)) (w : World) (r : Ending) (w' : World) : Prop :=
  (match o with
    | some (n, ds) => ∃ av cv, r = .returned (.agg #[.int .i64 0, .string (str n), .slice av ds.length cv]) ∧ w'.ownsRow w.heap.size 2 1 (.slice av ds.length cv) ds.length (ds.map (Value.int .i64))
    | none => r = .returned (.agg #[.int .i64 5, .string ⟨#[]⟩, .slice none 0 0])) ∧ Below w.heap.size w w'
theorem implParseManifest_any (t : Bs) (u : TypeId) (vp : Value) (w : World) (hl : t.length ≤ 1048576) (hg : w.cell? ⟨0, 0, none⟩ = some (.iface u vp)) :
    Calls Tryd.prog 6 #[.string (str t)] w (ResM (parseM t) w) := by
  have hread : ∀ w1, w1.cell? ⟨0, 0, none⟩ = some (.iface u vp) → Calls Tryd.prog 18 #[.string (str t)] w1 fun r w' => (match readP t with | some (n, ds) => ∃ av cv, r = .returned (.agg #[.string (str n), .slice av ds.length cv]) ∧ w'.ownsRow w1.heap.size 2 1 (.slice av ds.length cv) ds.length (ds.map (Value.int .i64)) | none => r = Dies u vp) ∧ Below w1.heap.size w1 w' := by
    intro w1 hg1
    obtain ⟨a0, rest, hc⟩ := cutC_head (m := 32) (trimL t)
    match rest, hc with
    | [], hc =>
      rw [readP_one hc]
      exact readManifest_one t a0 u vp w1 (by omega) hc hg1
    | [n], hc =>
      rw [readP_two hc]
      exact readManifest_two t a0 n u vp w1 (by omega) hc hg1
    | n :: d :: r, hc =>
      rw [readP_more hc]
      refine (readManifest_more t a0 n d r u vp w1 (by omega) hc hg1).mono ?_
      rintro e w' ⟨he, hb⟩
      refine ⟨?_, hb⟩
      cases hm : (d :: r).mapM hexW with
      | none => rw [hm] at he; exact he
      | some ds => rw [hm] at he; exact he
  cases hr : readP t with
  | none =>
    rw [parse_unread hr]
    refine implParseManifest_unread t u vp w (fun w1 h1 => ?_) hg
    have := hread w1 h1
    rw [hr] at this
    exact this
  | some x =>
    obtain ⟨n, ds⟩ := x
    have hlen := readP_len hr
    have hh : ∀ w1, w1.cell? ⟨0, 0, none⟩ = some (.iface u vp) → Calls Tryd.prog 18 #[.string (str t)] w1 fun r w' => (∃ av cv, r = .returned (.agg #[.string (str n), .slice av ds.length cv]) ∧ w'.ownsRow w1.heap.size 2 1 (.slice av ds.length cv) ds.length (ds.map (Value.int .i64))) ∧ Below w1.heap.size w1 w' := by
      intro w1 h1
      have := hread w1 h1
      rw [hr] at this
      exact this
    by_cases hf : manFault n ds = 0
    · by_cases ht : packText n ds = t
      · rw [parse_read hr hf (by rw [← packText_good hf]; exact ht)]
        exact implParseManifest_yes t n ds u vp w hh (by omega) (by omega) hg hf ht
      · rw [parse_not hr (.inr (by rw [← packText_good hf]; exact ht))]
        exact implParseManifest_not t n ds u vp w hh (by omega) (by omega) hg (.inr ht)
    · rw [parse_not hr (.inl hf)]
      exact implParseManifest_not t n ds u vp w hh (by omega) (by omega) hg (.inl hf)
end Go.Proofs.YtmehngcbafdcgaaDoor
