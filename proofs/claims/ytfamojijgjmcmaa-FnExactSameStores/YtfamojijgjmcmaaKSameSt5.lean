/-
  Texts put together: StoD.
-/
import Derived.Test.YtfamojijgjmcmaaKSameSt4
import Derived.Test.YtfamojijgjmcmaaKSameSt1
import Derived.Deep.DrawnRows
import Derived.Deep.RegionHeld3
namespace Go.Proofs.Ytfamojijgjmcmaa
open Go.ChangeShapes Go.WideShapes Go.ChangeAt Go.RowKit Go.Maps
set_option linter.unusedVariables false
attribute [local go_sem ↓] Go.wp_at_zero Go.wp_at_succ

def AnsB (p : Prop) (w : World) (r : Ending) (w' : World) : Prop := ∃ b, r = .returned (.bool b) ∧ (b = true ↔ p) ∧ Below w.heap.size w w'
theorem tk {P : Program} {ops : Array Oper} {Q : Exit → Act → World → Prop} {md : Region.Mode} {S : World → Prop} (i d : Nat) (v : Value) {op : Op} {ty : TypeId} {pos : String} {af : Array Edge} {gd : Option (Nat × Bool)} {fuel : Nat} {listed : Array Bool} {a : Act} {w : World} (hS : S w) (hi : ops[i]? = some { dst := some d, op := op, type := ty, pos := pos, after := af, guard := gd })
    (hs : Region.noSelect ops = true) (hf : Region.free md ops listed i = true) (hr : (Region.ready md ops listed).contains i = true) (hQ : ∀ c a w, Q (.panic c) (a.put (some d) v) w → Q (.panic c) a w) (hy : YieldsIf P ops S { dst := some d, op := op, type := ty, pos := pos, after := af, guard := gd } v a)
    (h : wpAnyH P md ops Q S fuel (listed.setIfInBounds i true) (a.put (some d) v) w) : wpAnyH P md ops Q S (fuel + 1) listed a w := wpAnyH_take hi hs hf hr hQ hy hS h
set_option maxHeartbeats 800000 in
theorem bondOf_any (s : Sn) (x : Option Addr) (c : Nat) (w : World) :
    Calls Try.prog 34 #[.agg #[.string (str s.name), .string (str s.parent), .int .i64 s.kind, .bool s.lease, .slice x s.layer.length c]] w fun r w' => r = .returned (.agg #[.string (str s.name), .string (str s.parent)]) ∧ Below w.heap.size w w' := by
  go_enter Try.func34, Try.ntmps34
  go_wp2_with fail
  refine bodyPost_ret (v := .agg #[.string (str s.name), .string (str s.parent)]) (by simp [results, Try.results34, go_sem]) rfl ?_
  refine ⟨rfl, ?_⟩
  exact below_next (below_alloc w _) (below_alloc _ _)
theorem sn_eq {s t : Sn} (h1 : s.name = t.name) (h2 : s.parent = t.parent) (h3 : s.kind = t.kind) (h4 : s.lease = t.lease) (h5 : s.layer = t.layer) : s = t := by
  cases s
  cases t
  simp only at h1 h2 h3 h4 h5
  subst h1 h2 h3 h4 h5
  rfl
set_option maxRecDepth 100000 in
set_option maxHeartbeats 6400000 in
theorem sameSnaps_any (s t : Sn) (x y : Option Addr) (cc dd : Nat) (w : World) (h : RdE w x s.layer) (h2 : RdE w y t.layer) (hl : s.layer.length ≤ 1048576) (hl2 : t.layer.length ≤ 1048576) (hs : SmallE s.layer) (hs2 : SmallE t.layer) :
    Calls Try.prog 18 #[.agg #[.string (str s.name), .string (str s.parent), .int .i64 s.kind, .bool s.lease, .slice x s.layer.length cc], .agg #[.string (str t.name), .string (str t.parent), .int .i64 t.kind, .bool t.lease, .slice y t.layer.length dd]] w (AnsB (s = t) w) := by
  have HB := hide (below_next (below_alloc w (.cells #[.string (str s.name), .string (str s.parent), .int .i64 s.kind, .bool s.lease, .slice x s.layer.length cc] 61)) (below_alloc _ (.cells #[.string (str t.name), .string (str t.parent), .int .i64 t.kind, .bool t.lease, .slice y t.layer.length dd] 61)))
  have F1 := hide ((Five.new w (.string (str s.name)) (.string (str s.parent)) (.int .i64 s.kind) (.bool s.lease) (.slice x s.layer.length cc) 61).below (below_alloc _ (.cells #[.string (str t.name), .string (str t.parent), .int .i64 t.kind, .bool t.lease, .slice y t.layer.length dd] 61)))
  have F2 := hide (Five.new (w.alloc (.cells #[.string (str s.name), .string (str s.parent), .int .i64 s.kind, .bool s.lease, .slice x s.layer.length cc] 61)) (.string (str t.name)) (.string (str t.parent)) (.int .i64 t.kind) (.bool t.lease) (.slice y t.layer.length dd) 61)
  have h1 : (w.alloc (.cells #[.string (str s.name), .string (str s.parent), .int .i64 s.kind, .bool s.lease, .slice x s.layer.length cc] 61)).heap.size = w.heap.size + 1 := by simp
  rw [h1] at F2
  clear h1
  have HR := hide (h.below HB.out)
  have HR2 := hide (h2.below HB.out)
  have HS := hide hs
  have HS2 := hide hs2
  clear h h2 hs hs2
  go_enter Try.func18, Try.ntmps18
  go_wp2_with fail
  generalize (w.alloc (.cells #[.string (str s.name), .string (str s.parent), .int .i64 s.kind, .bool s.lease, .slice x s.layer.length cc] 61)).alloc (.cells #[.string (str t.name), .string (str t.parent), .int .i64 t.kind, .bool t.lease, .slice y t.layer.length dd] 61) = W0 at *
  generalize w.heap.size + 1 = q at *
  obtain ⟨p, hp⟩ : ∃ p, p = w.heap.size := ⟨_, rfl⟩
  rw [← hp] at F1 ⊢
  have HPp := hide hp
  clear hp
  have KC : Hid (∀ u : World, Below W0.heap.size W0 u → Five u p (.string (str s.name)) (.string (str s.parent)) (.int .i64 s.kind) (.bool s.lease) (.slice x s.layer.length cc) ∧ Five u q (.string (str t.name)) (.string (str t.parent)) (.int .i64 t.kind) (.bool t.lease) (.slice y t.layer.length dd)) := hide (fun u hu => ⟨F1.out.below hu, F2.out.below hu⟩)
  have HSL := hide (fun u (hu : Below W0.heap.size W0 u) => implSameLayers_any x y cc dd s.layer.length t.layer.length s.layer t.layer u (HR.out.below hu) (HR2.out.below hu) rfl rfl hl hl2 HS.out HS2.out)
  have HBe := hide HB.out
  by_cases hn : s.name = t.name
  · by_cases hpa : s.parent = t.parent
    · have hbe := str_yes hn
      have hbp := str_yes hpa
      have HN := hide hn
      have HPA := hide hpa
      clear hn hpa
      by_cases hk : s.kind = t.kind
      · have hkb : (s.kind == t.kind) = true := by simp [hk]
        have HK := hide hk
        clear hk
        by_cases hle : s.lease = t.lease
        · have hlb : (s.lease == t.lease) = true := by simp [hle]
          have HLE := hide hle
          clear hle
          obtain ⟨Z, hZ⟩ : ∃ Z, Z = decide (s.layer = t.layer) := ⟨_, rfl⟩
          rw [← hZ] at HSL
          have HZ := hide (show Z = true ↔ s = t from ⟨fun e => sn_eq HN.out HPA.out HK.out HLE.out (by rw [hZ] at e; exact of_decide_eq_true e), fun e => by rw [hZ]; exact decide_eq_true (by rw [e])⟩)
          clear hZ
          refine wp_region_held_drew (S := fun u : World => Five u p (.string (str s.name)) (.string (str s.parent)) (.int .i64 s.kind) (.bool s.lease) (.slice x s.layer.length cc) ∧ Five u q (.string (str t.name)) (.string (str t.parent)) (.int .i64 t.kind) (.bool t.lease) (.slice y t.layer.length dd)) (by kernel_rfl) (KC.out _ (Below.refl _ _).drew) (fun hHeld => ?_)
          change wpAnyH _ _ _ _ _ _ (Array.replicate _ false) _ _
          refine tk 0 5 (.agg #[.string (str s.name), .string (str s.parent), .int .i64 s.kind, .bool s.lease, .slice x s.layer.length cc]) hHeld rfl (by kernel_rfl) (by kernel_rfl) (by kernel_rfl) (fun _ _ _ h => h) (Or.inl ⟨by rfl, ?_⟩) ?_
          · rintro w ⟨⟨q0, q1, q2, q3, q4⟩, p0, p1, p2, p3, p4⟩
            go_simp <;> (first | done | omega | (intro _; omega))
          try simp only [Act.put, List.setIfInBounds_toArray, List.set_cons_zero, List.set_cons_succ]
          refine tk 2 7 (.agg #[.string (str t.name), .string (str t.parent), .int .i64 t.kind, .bool t.lease, .slice y t.layer.length dd]) hHeld rfl (by kernel_rfl) (by kernel_rfl) (by kernel_rfl) (fun _ _ _ h => h) (Or.inl ⟨by rfl, ?_⟩) ?_
          · rintro w ⟨⟨q0, q1, q2, q3, q4⟩, p0, p1, p2, p3, p4⟩
            go_simp <;> (first | done | omega | (intro _; omega))
          try simp only [Act.put, List.setIfInBounds_toArray, List.set_cons_zero, List.set_cons_succ]
          refine wpAnyH_ready (rs := [1]) (by kernel_rfl) (by simp) ?_
          refine AllReadyH.cons rfl (fun K hK => ?_) AllReadyH.nil
          go_simp
          refine (bondOf_any s x cc _).mono ?_
          rintro r w3 ⟨rfl, hb3⟩
          have BB1 := hide ((Below.refl W0.heap.size W0).drew.trans hb3)
          clear hb3
          go_wp2_with fail
          refine hK.out _ _ (KC.out _ BB1.out) (fun hHeld => ?_)
          clear hK K
          try simp only [Act.put, List.setIfInBounds_toArray, List.set_cons_zero, List.set_cons_succ]
          refine wpAnyH_ready (rs := [3]) (by kernel_rfl) (by simp) ?_
          refine AllReadyH.cons rfl (fun K hK => ?_) AllReadyH.nil
          go_simp
          refine (bondOf_any t y dd _).mono ?_
          rintro r w4 ⟨rfl, hb4⟩
          have BB2 := hide (below_next BB1.out hb4)
          clear hb4 BB1
          go_wp2_with fail
          refine hK.out _ _ (KC.out _ BB2.out) (fun hHeld => ?_)
          clear hK K
          try simp only [Act.put, List.setIfInBounds_toArray, List.set_cons_zero, List.set_cons_succ]
          refine tk 4 9 (.bool true) hHeld rfl (by kernel_rfl) (by kernel_rfl) (by kernel_rfl) (fun _ _ _ h => h) (Or.inl ⟨by rfl, ?_⟩) ?_
          · rintro w ⟨⟨q0, q1, q2, q3, q4⟩, p0, p1, p2, p3, p4⟩
            go_simp <;> (first | done | omega | (intro _; omega))
          try simp only [Act.put, List.setIfInBounds_toArray, List.set_cons_zero, List.set_cons_succ]
          refine tk 5 10 (.bool true) hHeld rfl (by kernel_rfl) (by kernel_rfl) (by kernel_rfl) (fun _ _ _ h => h) (Or.inl ⟨by rfl, ?_⟩) ?_
          · rintro w ⟨⟨q0, q1, q2, q3, q4⟩, p0, p1, p2, p3, p4⟩
            go_simp <;> (first | done | omega | (intro _; omega))
          try simp only [Act.put, List.setIfInBounds_toArray, List.set_cons_zero, List.set_cons_succ]
          refine tk 6 11 (.pointer (some ⟨p, 2, none⟩)) hHeld rfl (by kernel_rfl) (by kernel_rfl) (by kernel_rfl) (fun _ _ _ h => h) (Or.inl ⟨by rfl, ?_⟩) ?_
          · rintro w ⟨⟨q0, q1, q2, q3, q4⟩, p0, p1, p2, p3, p4⟩
            go_simp <;> (first | done | omega | (intro _; omega))
          try simp only [Act.put, List.setIfInBounds_toArray, List.set_cons_zero, List.set_cons_succ]
          refine tk 7 12 (.int .i64 s.kind) hHeld rfl (by kernel_rfl) (by kernel_rfl) (by kernel_rfl) (fun _ _ _ h => h) (Or.inl ⟨by rfl, ?_⟩) ?_
          · rintro w ⟨⟨q0, q1, q2, q3, q4⟩, p0, p1, p2, p3, p4⟩
            go_simp <;> (first | done | omega | (intro _; omega))
          try simp only [Act.put, List.setIfInBounds_toArray, List.set_cons_zero, List.set_cons_succ]
          refine tk 8 13 (.pointer (some ⟨q, 2, none⟩)) hHeld rfl (by kernel_rfl) (by kernel_rfl) (by kernel_rfl) (fun _ _ _ h => h) (Or.inl ⟨by rfl, ?_⟩) ?_
          · rintro w ⟨⟨q0, q1, q2, q3, q4⟩, p0, p1, p2, p3, p4⟩
            go_simp <;> (first | done | omega | (intro _; omega))
          try simp only [Act.put, List.setIfInBounds_toArray, List.set_cons_zero, List.set_cons_succ]
          refine tk 9 14 (.int .i64 t.kind) hHeld rfl (by kernel_rfl) (by kernel_rfl) (by kernel_rfl) (fun _ _ _ h => h) (Or.inl ⟨by rfl, ?_⟩) ?_
          · rintro w ⟨⟨q0, q1, q2, q3, q4⟩, p0, p1, p2, p3, p4⟩
            go_simp <;> (first | done | omega | (intro _; omega))
          try simp only [Act.put, List.setIfInBounds_toArray, List.set_cons_zero, List.set_cons_succ]
          refine tk 10 15 (.bool true) hHeld rfl (by kernel_rfl) (by kernel_rfl) (by kernel_rfl) (fun _ _ _ h => h) (Or.inl ⟨by rfl, ?_⟩) ?_
          · rintro w ⟨⟨q0, q1, q2, q3, q4⟩, p0, p1, p2, p3, p4⟩
            go_simp <;> (first | done | omega | (intro _; omega))
          try simp only [Act.put, List.setIfInBounds_toArray, List.set_cons_zero, List.set_cons_succ]
          refine tk 11 16 (.bool true) hHeld rfl (by kernel_rfl) (by kernel_rfl) (by kernel_rfl) (fun _ _ _ h => h) (Or.inl ⟨by rfl, ?_⟩) ?_
          · rintro w ⟨⟨q0, q1, q2, q3, q4⟩, p0, p1, p2, p3, p4⟩
            go_simp <;> (first | done | omega | (intro _; omega))
          try simp only [Act.put, List.setIfInBounds_toArray, List.set_cons_zero, List.set_cons_succ]
          refine tk 12 17 (.bool true) hHeld rfl (by kernel_rfl) (by kernel_rfl) (by kernel_rfl) (fun _ _ _ h => h) (Or.inl ⟨by rfl, ?_⟩) ?_
          · rintro w ⟨⟨q0, q1, q2, q3, q4⟩, p0, p1, p2, p3, p4⟩
            go_simp <;> (first | done | omega | (intro _; omega))
          try simp only [Act.put, List.setIfInBounds_toArray, List.set_cons_zero, List.set_cons_succ]
          refine tk 13 18 (.pointer (some ⟨p, 3, none⟩)) hHeld rfl (by kernel_rfl) (by kernel_rfl) (by kernel_rfl) (fun _ _ _ h => h) (Or.inl ⟨by rfl, ?_⟩) ?_
          · rintro w ⟨⟨q0, q1, q2, q3, q4⟩, p0, p1, p2, p3, p4⟩
            go_simp <;> (first | done | omega | (intro _; omega))
          try simp only [Act.put, List.setIfInBounds_toArray, List.set_cons_zero, List.set_cons_succ]
          refine tk 14 19 (.bool s.lease) hHeld rfl (by kernel_rfl) (by kernel_rfl) (by kernel_rfl) (fun _ _ _ h => h) (Or.inl ⟨by rfl, ?_⟩) ?_
          · rintro w ⟨⟨q0, q1, q2, q3, q4⟩, p0, p1, p2, p3, p4⟩
            go_simp <;> (first | done | omega | (intro _; omega))
          try simp only [Act.put, List.setIfInBounds_toArray, List.set_cons_zero, List.set_cons_succ]
          refine tk 15 20 (.pointer (some ⟨q, 3, none⟩)) hHeld rfl (by kernel_rfl) (by kernel_rfl) (by kernel_rfl) (fun _ _ _ h => h) (Or.inl ⟨by rfl, ?_⟩) ?_
          · rintro w ⟨⟨q0, q1, q2, q3, q4⟩, p0, p1, p2, p3, p4⟩
            go_simp <;> (first | done | omega | (intro _; omega))
          try simp only [Act.put, List.setIfInBounds_toArray, List.set_cons_zero, List.set_cons_succ]
          refine tk 16 21 (.bool t.lease) hHeld rfl (by kernel_rfl) (by kernel_rfl) (by kernel_rfl) (fun _ _ _ h => h) (Or.inl ⟨by rfl, ?_⟩) ?_
          · rintro w ⟨⟨q0, q1, q2, q3, q4⟩, p0, p1, p2, p3, p4⟩
            go_simp <;> (first | done | omega | (intro _; omega))
          try simp only [Act.put, List.setIfInBounds_toArray, List.set_cons_zero, List.set_cons_succ]
          refine tk 17 22 (.bool true) hHeld rfl (by kernel_rfl) (by kernel_rfl) (by kernel_rfl) (fun _ _ _ h => h) (Or.inl ⟨by rfl, ?_⟩) ?_
          · rintro w ⟨⟨q0, q1, q2, q3, q4⟩, p0, p1, p2, p3, p4⟩
            go_simp <;> (first | done | omega | (intro _; omega))
          try simp only [Act.put, List.setIfInBounds_toArray, List.set_cons_zero, List.set_cons_succ]
          refine tk 18 23 (.bool true) hHeld rfl (by kernel_rfl) (by kernel_rfl) (by kernel_rfl) (fun _ _ _ h => h) (Or.inl ⟨by rfl, ?_⟩) ?_
          · rintro w ⟨⟨q0, q1, q2, q3, q4⟩, p0, p1, p2, p3, p4⟩
            go_simp <;> (first | done | omega | (intro _; omega))
          try simp only [Act.put, List.setIfInBounds_toArray, List.set_cons_zero, List.set_cons_succ]
          refine tk 19 24 (.bool true) hHeld rfl (by kernel_rfl) (by kernel_rfl) (by kernel_rfl) (fun _ _ _ h => h) (Or.inl ⟨by rfl, ?_⟩) ?_
          · rintro w ⟨⟨q0, q1, q2, q3, q4⟩, p0, p1, p2, p3, p4⟩
            go_simp <;> (first | done | omega | (intro _; omega))
          try simp only [Act.put, List.setIfInBounds_toArray, List.set_cons_zero, List.set_cons_succ]
          refine tk 20 25 (.pointer (some ⟨p, 4, none⟩)) hHeld rfl (by kernel_rfl) (by kernel_rfl) (by kernel_rfl) (fun _ _ _ h => h) (Or.inl ⟨by rfl, ?_⟩) ?_
          · rintro w ⟨⟨q0, q1, q2, q3, q4⟩, p0, p1, p2, p3, p4⟩
            go_simp <;> (first | done | omega | (intro _; omega))
          try simp only [Act.put, List.setIfInBounds_toArray, List.set_cons_zero, List.set_cons_succ]
          refine tk 21 26 (.slice x s.layer.length cc) hHeld rfl (by kernel_rfl) (by kernel_rfl) (by kernel_rfl) (fun _ _ _ h => h) (Or.inl ⟨by rfl, ?_⟩) ?_
          · rintro w ⟨⟨q0, q1, q2, q3, q4⟩, p0, p1, p2, p3, p4⟩
            go_simp <;> (first | done | omega | (intro _; omega))
          try simp only [Act.put, List.setIfInBounds_toArray, List.set_cons_zero, List.set_cons_succ]
          refine tk 22 27 (.pointer (some ⟨q, 4, none⟩)) hHeld rfl (by kernel_rfl) (by kernel_rfl) (by kernel_rfl) (fun _ _ _ h => h) (Or.inl ⟨by rfl, ?_⟩) ?_
          · rintro w ⟨⟨q0, q1, q2, q3, q4⟩, p0, p1, p2, p3, p4⟩
            go_simp <;> (first | done | omega | (intro _; omega))
          try simp only [Act.put, List.setIfInBounds_toArray, List.set_cons_zero, List.set_cons_succ]
          refine tk 23 28 (.slice y t.layer.length dd) hHeld rfl (by kernel_rfl) (by kernel_rfl) (by kernel_rfl) (fun _ _ _ h => h) (Or.inl ⟨by rfl, ?_⟩) ?_
          · rintro w ⟨⟨q0, q1, q2, q3, q4⟩, p0, p1, p2, p3, p4⟩
            go_simp <;> (first | done | omega | (intro _; omega))
          try simp only [Act.put, List.setIfInBounds_toArray, List.set_cons_zero, List.set_cons_succ]
          refine wpAnyH_ready (rs := [24]) (by kernel_rfl) (by simp) ?_
          refine AllReadyH.cons rfl (fun K hK => ?_) AllReadyH.nil
          go_simp
          refine (HSL.out _ BB2.out).mono ?_
          rintro r w5 ⟨rfl, hb5⟩
          have BB3 := hide (below_next BB2.out hb5)
          clear hb5
          go_wp2_with fail
          refine hK.out _ _ (KC.out _ BB3.out) (fun hHeld => ?_)
          clear hK K
          try simp only [Act.put, List.setIfInBounds_toArray, List.set_cons_zero, List.set_cons_succ]
          refine tk 25 30 (.bool Z) hHeld rfl (by kernel_rfl) (by kernel_rfl) (by kernel_rfl) (fun _ _ _ h => h) (Or.inl ⟨by rfl, ?_⟩) ?_
          · rintro w ⟨⟨q0, q1, q2, q3, q4⟩, p0, p1, p2, p3, p4⟩
            go_simp <;> (first | done | omega | (intro _; omega))
          try simp only [Act.put, List.setIfInBounds_toArray, List.set_cons_zero, List.set_cons_succ]
          refine tk 26 4 (.bool Z) hHeld rfl (by kernel_rfl) (by kernel_rfl) (by kernel_rfl) (fun _ _ _ h => h) (Or.inl ⟨by rfl, ?_⟩) ?_
          · rintro w ⟨⟨q0, q1, q2, q3, q4⟩, p0, p1, p2, p3, p4⟩
            go_simp <;> (first | done | omega | (intro _; omega))
          try simp only [Act.put, List.setIfInBounds_toArray, List.set_cons_zero, List.set_cons_succ]
          refine wpAnyH_done (by kernel_rfl) ?_ _
          go_wp2_with fail
          go_ret
          exact ⟨_, rfl, HZ.out, below_next HB.out BB3.out⟩
        · have hlb : (s.lease == t.lease) = false := by simp [hle]
          have HX := hide (show false = true ↔ s = t from ⟨fun e => Bool.noConfusion e, fun e => absurd (by rw [e]) hle⟩)
          clear hle
          refine wp_region_held_drew (S := fun u : World => Five u p (.string (str s.name)) (.string (str s.parent)) (.int .i64 s.kind) (.bool s.lease) (.slice x s.layer.length cc) ∧ Five u q (.string (str t.name)) (.string (str t.parent)) (.int .i64 t.kind) (.bool t.lease) (.slice y t.layer.length dd)) (by kernel_rfl) (KC.out _ (Below.refl _ _).drew) (fun hHeld => ?_)
          change wpAnyH _ _ _ _ _ _ (Array.replicate _ false) _ _
          refine tk 0 5 (.agg #[.string (str s.name), .string (str s.parent), .int .i64 s.kind, .bool s.lease, .slice x s.layer.length cc]) hHeld rfl (by kernel_rfl) (by kernel_rfl) (by kernel_rfl) (fun _ _ _ h => h) (Or.inl ⟨by rfl, ?_⟩) ?_
          · rintro w ⟨⟨q0, q1, q2, q3, q4⟩, p0, p1, p2, p3, p4⟩
            go_simp <;> (first | done | omega | (intro _; omega))
          try simp only [Act.put, List.setIfInBounds_toArray, List.set_cons_zero, List.set_cons_succ]
          refine tk 2 7 (.agg #[.string (str t.name), .string (str t.parent), .int .i64 t.kind, .bool t.lease, .slice y t.layer.length dd]) hHeld rfl (by kernel_rfl) (by kernel_rfl) (by kernel_rfl) (fun _ _ _ h => h) (Or.inl ⟨by rfl, ?_⟩) ?_
          · rintro w ⟨⟨q0, q1, q2, q3, q4⟩, p0, p1, p2, p3, p4⟩
            go_simp <;> (first | done | omega | (intro _; omega))
          try simp only [Act.put, List.setIfInBounds_toArray, List.set_cons_zero, List.set_cons_succ]
          refine wpAnyH_ready (rs := [1]) (by kernel_rfl) (by simp) ?_
          refine AllReadyH.cons rfl (fun K hK => ?_) AllReadyH.nil
          go_simp
          refine (bondOf_any s x cc _).mono ?_
          rintro r w3 ⟨rfl, hb3⟩
          have BB1 := hide ((Below.refl W0.heap.size W0).drew.trans hb3)
          clear hb3
          go_wp2_with fail
          refine hK.out _ _ (KC.out _ BB1.out) (fun hHeld => ?_)
          clear hK K
          try simp only [Act.put, List.setIfInBounds_toArray, List.set_cons_zero, List.set_cons_succ]
          refine wpAnyH_ready (rs := [3]) (by kernel_rfl) (by simp) ?_
          refine AllReadyH.cons rfl (fun K hK => ?_) AllReadyH.nil
          go_simp
          refine (bondOf_any t y dd _).mono ?_
          rintro r w4 ⟨rfl, hb4⟩
          have BB2 := hide (below_next BB1.out hb4)
          clear hb4 BB1
          go_wp2_with fail
          refine hK.out _ _ (KC.out _ BB2.out) (fun hHeld => ?_)
          clear hK K
          try simp only [Act.put, List.setIfInBounds_toArray, List.set_cons_zero, List.set_cons_succ]
          refine tk 4 9 (.bool true) hHeld rfl (by kernel_rfl) (by kernel_rfl) (by kernel_rfl) (fun _ _ _ h => h) (Or.inl ⟨by rfl, ?_⟩) ?_
          · rintro w ⟨⟨q0, q1, q2, q3, q4⟩, p0, p1, p2, p3, p4⟩
            go_simp <;> (first | done | omega | (intro _; omega))
          try simp only [Act.put, List.setIfInBounds_toArray, List.set_cons_zero, List.set_cons_succ]
          refine tk 5 10 (.bool true) hHeld rfl (by kernel_rfl) (by kernel_rfl) (by kernel_rfl) (fun _ _ _ h => h) (Or.inl ⟨by rfl, ?_⟩) ?_
          · rintro w ⟨⟨q0, q1, q2, q3, q4⟩, p0, p1, p2, p3, p4⟩
            go_simp <;> (first | done | omega | (intro _; omega))
          try simp only [Act.put, List.setIfInBounds_toArray, List.set_cons_zero, List.set_cons_succ]
          refine tk 6 11 (.pointer (some ⟨p, 2, none⟩)) hHeld rfl (by kernel_rfl) (by kernel_rfl) (by kernel_rfl) (fun _ _ _ h => h) (Or.inl ⟨by rfl, ?_⟩) ?_
          · rintro w ⟨⟨q0, q1, q2, q3, q4⟩, p0, p1, p2, p3, p4⟩
            go_simp <;> (first | done | omega | (intro _; omega))
          try simp only [Act.put, List.setIfInBounds_toArray, List.set_cons_zero, List.set_cons_succ]
          refine tk 7 12 (.int .i64 s.kind) hHeld rfl (by kernel_rfl) (by kernel_rfl) (by kernel_rfl) (fun _ _ _ h => h) (Or.inl ⟨by rfl, ?_⟩) ?_
          · rintro w ⟨⟨q0, q1, q2, q3, q4⟩, p0, p1, p2, p3, p4⟩
            go_simp <;> (first | done | omega | (intro _; omega))
          try simp only [Act.put, List.setIfInBounds_toArray, List.set_cons_zero, List.set_cons_succ]
          refine tk 8 13 (.pointer (some ⟨q, 2, none⟩)) hHeld rfl (by kernel_rfl) (by kernel_rfl) (by kernel_rfl) (fun _ _ _ h => h) (Or.inl ⟨by rfl, ?_⟩) ?_
          · rintro w ⟨⟨q0, q1, q2, q3, q4⟩, p0, p1, p2, p3, p4⟩
            go_simp <;> (first | done | omega | (intro _; omega))
          try simp only [Act.put, List.setIfInBounds_toArray, List.set_cons_zero, List.set_cons_succ]
          refine tk 9 14 (.int .i64 t.kind) hHeld rfl (by kernel_rfl) (by kernel_rfl) (by kernel_rfl) (fun _ _ _ h => h) (Or.inl ⟨by rfl, ?_⟩) ?_
          · rintro w ⟨⟨q0, q1, q2, q3, q4⟩, p0, p1, p2, p3, p4⟩
            go_simp <;> (first | done | omega | (intro _; omega))
          try simp only [Act.put, List.setIfInBounds_toArray, List.set_cons_zero, List.set_cons_succ]
          refine tk 10 15 (.bool true) hHeld rfl (by kernel_rfl) (by kernel_rfl) (by kernel_rfl) (fun _ _ _ h => h) (Or.inl ⟨by rfl, ?_⟩) ?_
          · rintro w ⟨⟨q0, q1, q2, q3, q4⟩, p0, p1, p2, p3, p4⟩
            go_simp <;> (first | done | omega | (intro _; omega))
          try simp only [Act.put, List.setIfInBounds_toArray, List.set_cons_zero, List.set_cons_succ]
          refine tk 11 16 (.bool true) hHeld rfl (by kernel_rfl) (by kernel_rfl) (by kernel_rfl) (fun _ _ _ h => h) (Or.inl ⟨by rfl, ?_⟩) ?_
          · rintro w ⟨⟨q0, q1, q2, q3, q4⟩, p0, p1, p2, p3, p4⟩
            go_simp <;> (first | done | omega | (intro _; omega))
          try simp only [Act.put, List.setIfInBounds_toArray, List.set_cons_zero, List.set_cons_succ]
          refine tk 12 17 (.bool true) hHeld rfl (by kernel_rfl) (by kernel_rfl) (by kernel_rfl) (fun _ _ _ h => h) (Or.inl ⟨by rfl, ?_⟩) ?_
          · rintro w ⟨⟨q0, q1, q2, q3, q4⟩, p0, p1, p2, p3, p4⟩
            go_simp <;> (first | done | omega | (intro _; omega))
          try simp only [Act.put, List.setIfInBounds_toArray, List.set_cons_zero, List.set_cons_succ]
          refine tk 13 18 (.pointer (some ⟨p, 3, none⟩)) hHeld rfl (by kernel_rfl) (by kernel_rfl) (by kernel_rfl) (fun _ _ _ h => h) (Or.inl ⟨by rfl, ?_⟩) ?_
          · rintro w ⟨⟨q0, q1, q2, q3, q4⟩, p0, p1, p2, p3, p4⟩
            go_simp <;> (first | done | omega | (intro _; omega))
          try simp only [Act.put, List.setIfInBounds_toArray, List.set_cons_zero, List.set_cons_succ]
          refine tk 14 19 (.bool s.lease) hHeld rfl (by kernel_rfl) (by kernel_rfl) (by kernel_rfl) (fun _ _ _ h => h) (Or.inl ⟨by rfl, ?_⟩) ?_
          · rintro w ⟨⟨q0, q1, q2, q3, q4⟩, p0, p1, p2, p3, p4⟩
            go_simp <;> (first | done | omega | (intro _; omega))
          try simp only [Act.put, List.setIfInBounds_toArray, List.set_cons_zero, List.set_cons_succ]
          refine tk 15 20 (.pointer (some ⟨q, 3, none⟩)) hHeld rfl (by kernel_rfl) (by kernel_rfl) (by kernel_rfl) (fun _ _ _ h => h) (Or.inl ⟨by rfl, ?_⟩) ?_
          · rintro w ⟨⟨q0, q1, q2, q3, q4⟩, p0, p1, p2, p3, p4⟩
            go_simp <;> (first | done | omega | (intro _; omega))
          try simp only [Act.put, List.setIfInBounds_toArray, List.set_cons_zero, List.set_cons_succ]
          refine tk 16 21 (.bool t.lease) hHeld rfl (by kernel_rfl) (by kernel_rfl) (by kernel_rfl) (fun _ _ _ h => h) (Or.inl ⟨by rfl, ?_⟩) ?_
          · rintro w ⟨⟨q0, q1, q2, q3, q4⟩, p0, p1, p2, p3, p4⟩
            go_simp <;> (first | done | omega | (intro _; omega))
          try simp only [Act.put, List.setIfInBounds_toArray, List.set_cons_zero, List.set_cons_succ]
          refine tk 17 22 (.bool false) hHeld rfl (by kernel_rfl) (by kernel_rfl) (by kernel_rfl) (fun _ _ _ h => h) (Or.inl ⟨by rfl, ?_⟩) ?_
          · rintro w ⟨⟨q0, q1, q2, q3, q4⟩, p0, p1, p2, p3, p4⟩
            go_simp <;> (first | done | omega | (intro _; omega))
          try simp only [Act.put, List.setIfInBounds_toArray, List.set_cons_zero, List.set_cons_succ]
          refine tk 18 23 (.bool false) hHeld rfl (by kernel_rfl) (by kernel_rfl) (by kernel_rfl) (fun _ _ _ h => h) (Or.inl ⟨by rfl, ?_⟩) ?_
          · rintro w ⟨⟨q0, q1, q2, q3, q4⟩, p0, p1, p2, p3, p4⟩
            go_simp <;> (first | done | omega | (intro _; omega))
          try simp only [Act.put, List.setIfInBounds_toArray, List.set_cons_zero, List.set_cons_succ]
          refine tk 19 24 (.bool false) hHeld rfl (by kernel_rfl) (by kernel_rfl) (by kernel_rfl) (fun _ _ _ h => h) (Or.inl ⟨by rfl, ?_⟩) ?_
          · rintro w ⟨⟨q0, q1, q2, q3, q4⟩, p0, p1, p2, p3, p4⟩
            go_simp <;> (first | done | omega | (intro _; omega))
          try simp only [Act.put, List.setIfInBounds_toArray, List.set_cons_zero, List.set_cons_succ]
          refine tk 20 25 undef hHeld rfl (by kernel_rfl) (by kernel_rfl) (by kernel_rfl) (fun _ _ _ h => h) (Or.inr ⟨by rfl, rfl⟩) ?_
          try simp only [Act.put, List.setIfInBounds_toArray, List.set_cons_zero, List.set_cons_succ]
          refine tk 21 26 undef hHeld rfl (by kernel_rfl) (by kernel_rfl) (by kernel_rfl) (fun _ _ _ h => h) (Or.inr ⟨by rfl, rfl⟩) ?_
          try simp only [Act.put, List.setIfInBounds_toArray, List.set_cons_zero, List.set_cons_succ]
          refine tk 22 27 undef hHeld rfl (by kernel_rfl) (by kernel_rfl) (by kernel_rfl) (fun _ _ _ h => h) (Or.inr ⟨by rfl, rfl⟩) ?_
          try simp only [Act.put, List.setIfInBounds_toArray, List.set_cons_zero, List.set_cons_succ]
          refine tk 23 28 undef hHeld rfl (by kernel_rfl) (by kernel_rfl) (by kernel_rfl) (fun _ _ _ h => h) (Or.inr ⟨by rfl, rfl⟩) ?_
          try simp only [Act.put, List.setIfInBounds_toArray, List.set_cons_zero, List.set_cons_succ]
          refine tk 24 29 undef hHeld rfl (by kernel_rfl) (by kernel_rfl) (by kernel_rfl) (fun _ _ _ h => h) (Or.inr ⟨by rfl, rfl⟩) ?_
          try simp only [Act.put, List.setIfInBounds_toArray, List.set_cons_zero, List.set_cons_succ]
          refine tk 25 30 (.bool false) hHeld rfl (by kernel_rfl) (by kernel_rfl) (by kernel_rfl) (fun _ _ _ h => h) (Or.inl ⟨by rfl, ?_⟩) ?_
          · rintro w ⟨⟨q0, q1, q2, q3, q4⟩, p0, p1, p2, p3, p4⟩
            go_simp <;> (first | done | omega | (intro _; omega))
          try simp only [Act.put, List.setIfInBounds_toArray, List.set_cons_zero, List.set_cons_succ]
          refine tk 26 4 (.bool false) hHeld rfl (by kernel_rfl) (by kernel_rfl) (by kernel_rfl) (fun _ _ _ h => h) (Or.inl ⟨by rfl, ?_⟩) ?_
          · rintro w ⟨⟨q0, q1, q2, q3, q4⟩, p0, p1, p2, p3, p4⟩
            go_simp <;> (first | done | omega | (intro _; omega))
          try simp only [Act.put, List.setIfInBounds_toArray, List.set_cons_zero, List.set_cons_succ]
          refine wpAnyH_done (by kernel_rfl) ?_ _
          go_wp2_with fail
          go_ret
          exact ⟨_, rfl, HX.out, below_next HB.out BB2.out⟩
      · have hkb : (s.kind == t.kind) = false := by simp [hk]
        have HX := hide (show false = true ↔ s = t from ⟨fun e => Bool.noConfusion e, fun e => absurd (by rw [e]) hk⟩)
        clear hk
        refine wp_region_held_drew (S := fun u : World => Five u p (.string (str s.name)) (.string (str s.parent)) (.int .i64 s.kind) (.bool s.lease) (.slice x s.layer.length cc) ∧ Five u q (.string (str t.name)) (.string (str t.parent)) (.int .i64 t.kind) (.bool t.lease) (.slice y t.layer.length dd)) (by kernel_rfl) (KC.out _ (Below.refl _ _).drew) (fun hHeld => ?_)
        change wpAnyH _ _ _ _ _ _ (Array.replicate _ false) _ _
        refine tk 0 5 (.agg #[.string (str s.name), .string (str s.parent), .int .i64 s.kind, .bool s.lease, .slice x s.layer.length cc]) hHeld rfl (by kernel_rfl) (by kernel_rfl) (by kernel_rfl) (fun _ _ _ h => h) (Or.inl ⟨by rfl, ?_⟩) ?_
        · rintro w ⟨⟨q0, q1, q2, q3, q4⟩, p0, p1, p2, p3, p4⟩
          go_simp <;> (first | done | omega | (intro _; omega))
        try simp only [Act.put, List.setIfInBounds_toArray, List.set_cons_zero, List.set_cons_succ]
        refine tk 2 7 (.agg #[.string (str t.name), .string (str t.parent), .int .i64 t.kind, .bool t.lease, .slice y t.layer.length dd]) hHeld rfl (by kernel_rfl) (by kernel_rfl) (by kernel_rfl) (fun _ _ _ h => h) (Or.inl ⟨by rfl, ?_⟩) ?_
        · rintro w ⟨⟨q0, q1, q2, q3, q4⟩, p0, p1, p2, p3, p4⟩
          go_simp <;> (first | done | omega | (intro _; omega))
        try simp only [Act.put, List.setIfInBounds_toArray, List.set_cons_zero, List.set_cons_succ]
        refine wpAnyH_ready (rs := [1]) (by kernel_rfl) (by simp) ?_
        refine AllReadyH.cons rfl (fun K hK => ?_) AllReadyH.nil
        go_simp
        refine (bondOf_any s x cc _).mono ?_
        rintro r w3 ⟨rfl, hb3⟩
        have BB1 := hide ((Below.refl W0.heap.size W0).drew.trans hb3)
        clear hb3
        go_wp2_with fail
        refine hK.out _ _ (KC.out _ BB1.out) (fun hHeld => ?_)
        clear hK K
        try simp only [Act.put, List.setIfInBounds_toArray, List.set_cons_zero, List.set_cons_succ]
        refine wpAnyH_ready (rs := [3]) (by kernel_rfl) (by simp) ?_
        refine AllReadyH.cons rfl (fun K hK => ?_) AllReadyH.nil
        go_simp
        refine (bondOf_any t y dd _).mono ?_
        rintro r w4 ⟨rfl, hb4⟩
        have BB2 := hide (below_next BB1.out hb4)
        clear hb4 BB1
        go_wp2_with fail
        refine hK.out _ _ (KC.out _ BB2.out) (fun hHeld => ?_)
        clear hK K
        try simp only [Act.put, List.setIfInBounds_toArray, List.set_cons_zero, List.set_cons_succ]
        refine tk 4 9 (.bool true) hHeld rfl (by kernel_rfl) (by kernel_rfl) (by kernel_rfl) (fun _ _ _ h => h) (Or.inl ⟨by rfl, ?_⟩) ?_
        · rintro w ⟨⟨q0, q1, q2, q3, q4⟩, p0, p1, p2, p3, p4⟩
          go_simp <;> (first | done | omega | (intro _; omega))
        try simp only [Act.put, List.setIfInBounds_toArray, List.set_cons_zero, List.set_cons_succ]
        refine tk 5 10 (.bool true) hHeld rfl (by kernel_rfl) (by kernel_rfl) (by kernel_rfl) (fun _ _ _ h => h) (Or.inl ⟨by rfl, ?_⟩) ?_
        · rintro w ⟨⟨q0, q1, q2, q3, q4⟩, p0, p1, p2, p3, p4⟩
          go_simp <;> (first | done | omega | (intro _; omega))
        try simp only [Act.put, List.setIfInBounds_toArray, List.set_cons_zero, List.set_cons_succ]
        refine tk 6 11 (.pointer (some ⟨p, 2, none⟩)) hHeld rfl (by kernel_rfl) (by kernel_rfl) (by kernel_rfl) (fun _ _ _ h => h) (Or.inl ⟨by rfl, ?_⟩) ?_
        · rintro w ⟨⟨q0, q1, q2, q3, q4⟩, p0, p1, p2, p3, p4⟩
          go_simp <;> (first | done | omega | (intro _; omega))
        try simp only [Act.put, List.setIfInBounds_toArray, List.set_cons_zero, List.set_cons_succ]
        refine tk 7 12 (.int .i64 s.kind) hHeld rfl (by kernel_rfl) (by kernel_rfl) (by kernel_rfl) (fun _ _ _ h => h) (Or.inl ⟨by rfl, ?_⟩) ?_
        · rintro w ⟨⟨q0, q1, q2, q3, q4⟩, p0, p1, p2, p3, p4⟩
          go_simp <;> (first | done | omega | (intro _; omega))
        try simp only [Act.put, List.setIfInBounds_toArray, List.set_cons_zero, List.set_cons_succ]
        refine tk 8 13 (.pointer (some ⟨q, 2, none⟩)) hHeld rfl (by kernel_rfl) (by kernel_rfl) (by kernel_rfl) (fun _ _ _ h => h) (Or.inl ⟨by rfl, ?_⟩) ?_
        · rintro w ⟨⟨q0, q1, q2, q3, q4⟩, p0, p1, p2, p3, p4⟩
          go_simp <;> (first | done | omega | (intro _; omega))
        try simp only [Act.put, List.setIfInBounds_toArray, List.set_cons_zero, List.set_cons_succ]
        refine tk 9 14 (.int .i64 t.kind) hHeld rfl (by kernel_rfl) (by kernel_rfl) (by kernel_rfl) (fun _ _ _ h => h) (Or.inl ⟨by rfl, ?_⟩) ?_
        · rintro w ⟨⟨q0, q1, q2, q3, q4⟩, p0, p1, p2, p3, p4⟩
          go_simp <;> (first | done | omega | (intro _; omega))
        try simp only [Act.put, List.setIfInBounds_toArray, List.set_cons_zero, List.set_cons_succ]
        refine tk 10 15 (.bool false) hHeld rfl (by kernel_rfl) (by kernel_rfl) (by kernel_rfl) (fun _ _ _ h => h) (Or.inl ⟨by rfl, ?_⟩) ?_
        · rintro w ⟨⟨q0, q1, q2, q3, q4⟩, p0, p1, p2, p3, p4⟩
          go_simp <;> (first | done | omega | (intro _; omega))
        try simp only [Act.put, List.setIfInBounds_toArray, List.set_cons_zero, List.set_cons_succ]
        refine tk 11 16 (.bool false) hHeld rfl (by kernel_rfl) (by kernel_rfl) (by kernel_rfl) (fun _ _ _ h => h) (Or.inl ⟨by rfl, ?_⟩) ?_
        · rintro w ⟨⟨q0, q1, q2, q3, q4⟩, p0, p1, p2, p3, p4⟩
          go_simp <;> (first | done | omega | (intro _; omega))
        try simp only [Act.put, List.setIfInBounds_toArray, List.set_cons_zero, List.set_cons_succ]
        refine tk 12 17 (.bool false) hHeld rfl (by kernel_rfl) (by kernel_rfl) (by kernel_rfl) (fun _ _ _ h => h) (Or.inl ⟨by rfl, ?_⟩) ?_
        · rintro w ⟨⟨q0, q1, q2, q3, q4⟩, p0, p1, p2, p3, p4⟩
          go_simp <;> (first | done | omega | (intro _; omega))
        try simp only [Act.put, List.setIfInBounds_toArray, List.set_cons_zero, List.set_cons_succ]
        refine tk 13 18 undef hHeld rfl (by kernel_rfl) (by kernel_rfl) (by kernel_rfl) (fun _ _ _ h => h) (Or.inr ⟨by rfl, rfl⟩) ?_
        try simp only [Act.put, List.setIfInBounds_toArray, List.set_cons_zero, List.set_cons_succ]
        refine tk 14 19 undef hHeld rfl (by kernel_rfl) (by kernel_rfl) (by kernel_rfl) (fun _ _ _ h => h) (Or.inr ⟨by rfl, rfl⟩) ?_
        try simp only [Act.put, List.setIfInBounds_toArray, List.set_cons_zero, List.set_cons_succ]
        refine tk 15 20 undef hHeld rfl (by kernel_rfl) (by kernel_rfl) (by kernel_rfl) (fun _ _ _ h => h) (Or.inr ⟨by rfl, rfl⟩) ?_
        try simp only [Act.put, List.setIfInBounds_toArray, List.set_cons_zero, List.set_cons_succ]
        refine tk 16 21 undef hHeld rfl (by kernel_rfl) (by kernel_rfl) (by kernel_rfl) (fun _ _ _ h => h) (Or.inr ⟨by rfl, rfl⟩) ?_
        try simp only [Act.put, List.setIfInBounds_toArray, List.set_cons_zero, List.set_cons_succ]
        refine tk 17 22 undef hHeld rfl (by kernel_rfl) (by kernel_rfl) (by kernel_rfl) (fun _ _ _ h => h) (Or.inr ⟨by rfl, rfl⟩) ?_
        try simp only [Act.put, List.setIfInBounds_toArray, List.set_cons_zero, List.set_cons_succ]
        refine tk 18 23 (.bool false) hHeld rfl (by kernel_rfl) (by kernel_rfl) (by kernel_rfl) (fun _ _ _ h => h) (Or.inl ⟨by rfl, ?_⟩) ?_
        · rintro w ⟨⟨q0, q1, q2, q3, q4⟩, p0, p1, p2, p3, p4⟩
          go_simp <;> (first | done | omega | (intro _; omega))
        try simp only [Act.put, List.setIfInBounds_toArray, List.set_cons_zero, List.set_cons_succ]
        refine tk 19 24 (.bool false) hHeld rfl (by kernel_rfl) (by kernel_rfl) (by kernel_rfl) (fun _ _ _ h => h) (Or.inl ⟨by rfl, ?_⟩) ?_
        · rintro w ⟨⟨q0, q1, q2, q3, q4⟩, p0, p1, p2, p3, p4⟩
          go_simp <;> (first | done | omega | (intro _; omega))
        try simp only [Act.put, List.setIfInBounds_toArray, List.set_cons_zero, List.set_cons_succ]
        refine tk 20 25 undef hHeld rfl (by kernel_rfl) (by kernel_rfl) (by kernel_rfl) (fun _ _ _ h => h) (Or.inr ⟨by rfl, rfl⟩) ?_
        try simp only [Act.put, List.setIfInBounds_toArray, List.set_cons_zero, List.set_cons_succ]
        refine tk 21 26 undef hHeld rfl (by kernel_rfl) (by kernel_rfl) (by kernel_rfl) (fun _ _ _ h => h) (Or.inr ⟨by rfl, rfl⟩) ?_
        try simp only [Act.put, List.setIfInBounds_toArray, List.set_cons_zero, List.set_cons_succ]
        refine tk 22 27 undef hHeld rfl (by kernel_rfl) (by kernel_rfl) (by kernel_rfl) (fun _ _ _ h => h) (Or.inr ⟨by rfl, rfl⟩) ?_
        try simp only [Act.put, List.setIfInBounds_toArray, List.set_cons_zero, List.set_cons_succ]
        refine tk 23 28 undef hHeld rfl (by kernel_rfl) (by kernel_rfl) (by kernel_rfl) (fun _ _ _ h => h) (Or.inr ⟨by rfl, rfl⟩) ?_
        try simp only [Act.put, List.setIfInBounds_toArray, List.set_cons_zero, List.set_cons_succ]
        refine tk 24 29 undef hHeld rfl (by kernel_rfl) (by kernel_rfl) (by kernel_rfl) (fun _ _ _ h => h) (Or.inr ⟨by rfl, rfl⟩) ?_
        try simp only [Act.put, List.setIfInBounds_toArray, List.set_cons_zero, List.set_cons_succ]
        refine tk 25 30 (.bool false) hHeld rfl (by kernel_rfl) (by kernel_rfl) (by kernel_rfl) (fun _ _ _ h => h) (Or.inl ⟨by rfl, ?_⟩) ?_
        · rintro w ⟨⟨q0, q1, q2, q3, q4⟩, p0, p1, p2, p3, p4⟩
          go_simp <;> (first | done | omega | (intro _; omega))
        try simp only [Act.put, List.setIfInBounds_toArray, List.set_cons_zero, List.set_cons_succ]
        refine tk 26 4 (.bool false) hHeld rfl (by kernel_rfl) (by kernel_rfl) (by kernel_rfl) (fun _ _ _ h => h) (Or.inl ⟨by rfl, ?_⟩) ?_
        · rintro w ⟨⟨q0, q1, q2, q3, q4⟩, p0, p1, p2, p3, p4⟩
          go_simp <;> (first | done | omega | (intro _; omega))
        try simp only [Act.put, List.setIfInBounds_toArray, List.set_cons_zero, List.set_cons_succ]
        refine wpAnyH_done (by kernel_rfl) ?_ _
        go_wp2_with fail
        go_ret
        exact ⟨_, rfl, HX.out, below_next HB.out BB2.out⟩
    · have hbe := str_yes hn
      have hbp := str_no hpa
      have HX := hide (show false = true ↔ s = t from ⟨fun e => Bool.noConfusion e, fun e => absurd (by rw [e]) hpa⟩)
      clear hn hpa
      refine wp_region_held_drew (S := fun u : World => Five u p (.string (str s.name)) (.string (str s.parent)) (.int .i64 s.kind) (.bool s.lease) (.slice x s.layer.length cc) ∧ Five u q (.string (str t.name)) (.string (str t.parent)) (.int .i64 t.kind) (.bool t.lease) (.slice y t.layer.length dd)) (by kernel_rfl) (KC.out _ (Below.refl _ _).drew) (fun hHeld => ?_)
      change wpAnyH _ _ _ _ _ _ (Array.replicate _ false) _ _
      refine tk 0 5 (.agg #[.string (str s.name), .string (str s.parent), .int .i64 s.kind, .bool s.lease, .slice x s.layer.length cc]) hHeld rfl (by kernel_rfl) (by kernel_rfl) (by kernel_rfl) (fun _ _ _ h => h) (Or.inl ⟨by rfl, ?_⟩) ?_
      · rintro w ⟨⟨q0, q1, q2, q3, q4⟩, p0, p1, p2, p3, p4⟩
        go_simp <;> (first | done | omega | (intro _; omega))
      try simp only [Act.put, List.setIfInBounds_toArray, List.set_cons_zero, List.set_cons_succ]
      refine tk 2 7 (.agg #[.string (str t.name), .string (str t.parent), .int .i64 t.kind, .bool t.lease, .slice y t.layer.length dd]) hHeld rfl (by kernel_rfl) (by kernel_rfl) (by kernel_rfl) (fun _ _ _ h => h) (Or.inl ⟨by rfl, ?_⟩) ?_
      · rintro w ⟨⟨q0, q1, q2, q3, q4⟩, p0, p1, p2, p3, p4⟩
        go_simp <;> (first | done | omega | (intro _; omega))
      try simp only [Act.put, List.setIfInBounds_toArray, List.set_cons_zero, List.set_cons_succ]
      refine wpAnyH_ready (rs := [1]) (by kernel_rfl) (by simp) ?_
      refine AllReadyH.cons rfl (fun K hK => ?_) AllReadyH.nil
      go_simp
      refine (bondOf_any s x cc _).mono ?_
      rintro r w3 ⟨rfl, hb3⟩
      have BB1 := hide ((Below.refl W0.heap.size W0).drew.trans hb3)
      clear hb3
      go_wp2_with fail
      refine hK.out _ _ (KC.out _ BB1.out) (fun hHeld => ?_)
      clear hK K
      try simp only [Act.put, List.setIfInBounds_toArray, List.set_cons_zero, List.set_cons_succ]
      refine wpAnyH_ready (rs := [3]) (by kernel_rfl) (by simp) ?_
      refine AllReadyH.cons rfl (fun K hK => ?_) AllReadyH.nil
      go_simp
      refine (bondOf_any t y dd _).mono ?_
      rintro r w4 ⟨rfl, hb4⟩
      have BB2 := hide (below_next BB1.out hb4)
      clear hb4 BB1
      go_wp2_with fail
      refine hK.out _ _ (KC.out _ BB2.out) (fun hHeld => ?_)
      clear hK K
      try simp only [Act.put, List.setIfInBounds_toArray, List.set_cons_zero, List.set_cons_succ]
      refine tk 4 9 (.bool false) hHeld rfl (by kernel_rfl) (by kernel_rfl) (by kernel_rfl) (fun _ _ _ h => h) (Or.inl ⟨by rfl, ?_⟩) ?_
      · rintro w ⟨⟨q0, q1, q2, q3, q4⟩, p0, p1, p2, p3, p4⟩
        go_simp <;> (first | done | omega | (intro _; omega))
      try simp only [Act.put, List.setIfInBounds_toArray, List.set_cons_zero, List.set_cons_succ]
      refine tk 5 10 (.bool false) hHeld rfl (by kernel_rfl) (by kernel_rfl) (by kernel_rfl) (fun _ _ _ h => h) (Or.inl ⟨by rfl, ?_⟩) ?_
      · rintro w ⟨⟨q0, q1, q2, q3, q4⟩, p0, p1, p2, p3, p4⟩
        go_simp <;> (first | done | omega | (intro _; omega))
      try simp only [Act.put, List.setIfInBounds_toArray, List.set_cons_zero, List.set_cons_succ]
      refine tk 6 11 undef hHeld rfl (by kernel_rfl) (by kernel_rfl) (by kernel_rfl) (fun _ _ _ h => h) (Or.inr ⟨by rfl, rfl⟩) ?_
      try simp only [Act.put, List.setIfInBounds_toArray, List.set_cons_zero, List.set_cons_succ]
      refine tk 7 12 undef hHeld rfl (by kernel_rfl) (by kernel_rfl) (by kernel_rfl) (fun _ _ _ h => h) (Or.inr ⟨by rfl, rfl⟩) ?_
      try simp only [Act.put, List.setIfInBounds_toArray, List.set_cons_zero, List.set_cons_succ]
      refine tk 8 13 undef hHeld rfl (by kernel_rfl) (by kernel_rfl) (by kernel_rfl) (fun _ _ _ h => h) (Or.inr ⟨by rfl, rfl⟩) ?_
      try simp only [Act.put, List.setIfInBounds_toArray, List.set_cons_zero, List.set_cons_succ]
      refine tk 9 14 undef hHeld rfl (by kernel_rfl) (by kernel_rfl) (by kernel_rfl) (fun _ _ _ h => h) (Or.inr ⟨by rfl, rfl⟩) ?_
      try simp only [Act.put, List.setIfInBounds_toArray, List.set_cons_zero, List.set_cons_succ]
      refine tk 10 15 undef hHeld rfl (by kernel_rfl) (by kernel_rfl) (by kernel_rfl) (fun _ _ _ h => h) (Or.inr ⟨by rfl, rfl⟩) ?_
      try simp only [Act.put, List.setIfInBounds_toArray, List.set_cons_zero, List.set_cons_succ]
      refine tk 11 16 (.bool false) hHeld rfl (by kernel_rfl) (by kernel_rfl) (by kernel_rfl) (fun _ _ _ h => h) (Or.inl ⟨by rfl, ?_⟩) ?_
      · rintro w ⟨⟨q0, q1, q2, q3, q4⟩, p0, p1, p2, p3, p4⟩
        go_simp <;> (first | done | omega | (intro _; omega))
      try simp only [Act.put, List.setIfInBounds_toArray, List.set_cons_zero, List.set_cons_succ]
      refine tk 12 17 (.bool false) hHeld rfl (by kernel_rfl) (by kernel_rfl) (by kernel_rfl) (fun _ _ _ h => h) (Or.inl ⟨by rfl, ?_⟩) ?_
      · rintro w ⟨⟨q0, q1, q2, q3, q4⟩, p0, p1, p2, p3, p4⟩
        go_simp <;> (first | done | omega | (intro _; omega))
      try simp only [Act.put, List.setIfInBounds_toArray, List.set_cons_zero, List.set_cons_succ]
      refine tk 13 18 undef hHeld rfl (by kernel_rfl) (by kernel_rfl) (by kernel_rfl) (fun _ _ _ h => h) (Or.inr ⟨by rfl, rfl⟩) ?_
      try simp only [Act.put, List.setIfInBounds_toArray, List.set_cons_zero, List.set_cons_succ]
      refine tk 14 19 undef hHeld rfl (by kernel_rfl) (by kernel_rfl) (by kernel_rfl) (fun _ _ _ h => h) (Or.inr ⟨by rfl, rfl⟩) ?_
      try simp only [Act.put, List.setIfInBounds_toArray, List.set_cons_zero, List.set_cons_succ]
      refine tk 15 20 undef hHeld rfl (by kernel_rfl) (by kernel_rfl) (by kernel_rfl) (fun _ _ _ h => h) (Or.inr ⟨by rfl, rfl⟩) ?_
      try simp only [Act.put, List.setIfInBounds_toArray, List.set_cons_zero, List.set_cons_succ]
      refine tk 16 21 undef hHeld rfl (by kernel_rfl) (by kernel_rfl) (by kernel_rfl) (fun _ _ _ h => h) (Or.inr ⟨by rfl, rfl⟩) ?_
      try simp only [Act.put, List.setIfInBounds_toArray, List.set_cons_zero, List.set_cons_succ]
      refine tk 17 22 undef hHeld rfl (by kernel_rfl) (by kernel_rfl) (by kernel_rfl) (fun _ _ _ h => h) (Or.inr ⟨by rfl, rfl⟩) ?_
      try simp only [Act.put, List.setIfInBounds_toArray, List.set_cons_zero, List.set_cons_succ]
      refine tk 18 23 (.bool false) hHeld rfl (by kernel_rfl) (by kernel_rfl) (by kernel_rfl) (fun _ _ _ h => h) (Or.inl ⟨by rfl, ?_⟩) ?_
      · rintro w ⟨⟨q0, q1, q2, q3, q4⟩, p0, p1, p2, p3, p4⟩
        go_simp <;> (first | done | omega | (intro _; omega))
      try simp only [Act.put, List.setIfInBounds_toArray, List.set_cons_zero, List.set_cons_succ]
      refine tk 19 24 (.bool false) hHeld rfl (by kernel_rfl) (by kernel_rfl) (by kernel_rfl) (fun _ _ _ h => h) (Or.inl ⟨by rfl, ?_⟩) ?_
      · rintro w ⟨⟨q0, q1, q2, q3, q4⟩, p0, p1, p2, p3, p4⟩
        go_simp <;> (first | done | omega | (intro _; omega))
      try simp only [Act.put, List.setIfInBounds_toArray, List.set_cons_zero, List.set_cons_succ]
      refine tk 20 25 undef hHeld rfl (by kernel_rfl) (by kernel_rfl) (by kernel_rfl) (fun _ _ _ h => h) (Or.inr ⟨by rfl, rfl⟩) ?_
      try simp only [Act.put, List.setIfInBounds_toArray, List.set_cons_zero, List.set_cons_succ]
      refine tk 21 26 undef hHeld rfl (by kernel_rfl) (by kernel_rfl) (by kernel_rfl) (fun _ _ _ h => h) (Or.inr ⟨by rfl, rfl⟩) ?_
      try simp only [Act.put, List.setIfInBounds_toArray, List.set_cons_zero, List.set_cons_succ]
      refine tk 22 27 undef hHeld rfl (by kernel_rfl) (by kernel_rfl) (by kernel_rfl) (fun _ _ _ h => h) (Or.inr ⟨by rfl, rfl⟩) ?_
      try simp only [Act.put, List.setIfInBounds_toArray, List.set_cons_zero, List.set_cons_succ]
      refine tk 23 28 undef hHeld rfl (by kernel_rfl) (by kernel_rfl) (by kernel_rfl) (fun _ _ _ h => h) (Or.inr ⟨by rfl, rfl⟩) ?_
      try simp only [Act.put, List.setIfInBounds_toArray, List.set_cons_zero, List.set_cons_succ]
      refine tk 24 29 undef hHeld rfl (by kernel_rfl) (by kernel_rfl) (by kernel_rfl) (fun _ _ _ h => h) (Or.inr ⟨by rfl, rfl⟩) ?_
      try simp only [Act.put, List.setIfInBounds_toArray, List.set_cons_zero, List.set_cons_succ]
      refine tk 25 30 (.bool false) hHeld rfl (by kernel_rfl) (by kernel_rfl) (by kernel_rfl) (fun _ _ _ h => h) (Or.inl ⟨by rfl, ?_⟩) ?_
      · rintro w ⟨⟨q0, q1, q2, q3, q4⟩, p0, p1, p2, p3, p4⟩
        go_simp <;> (first | done | omega | (intro _; omega))
      try simp only [Act.put, List.setIfInBounds_toArray, List.set_cons_zero, List.set_cons_succ]
      refine tk 26 4 (.bool false) hHeld rfl (by kernel_rfl) (by kernel_rfl) (by kernel_rfl) (fun _ _ _ h => h) (Or.inl ⟨by rfl, ?_⟩) ?_
      · rintro w ⟨⟨q0, q1, q2, q3, q4⟩, p0, p1, p2, p3, p4⟩
        go_simp <;> (first | done | omega | (intro _; omega))
      try simp only [Act.put, List.setIfInBounds_toArray, List.set_cons_zero, List.set_cons_succ]
      refine wpAnyH_done (by kernel_rfl) ?_ _
      go_wp2_with fail
      go_ret
      exact ⟨_, rfl, HX.out, below_next HB.out BB2.out⟩
  · have hbe := str_no hn
    have HX := hide (show false = true ↔ s = t from ⟨fun e => Bool.noConfusion e, fun e => absurd (by rw [e]) hn⟩)
    clear hn
    refine wp_region_held_drew (S := fun u : World => Five u p (.string (str s.name)) (.string (str s.parent)) (.int .i64 s.kind) (.bool s.lease) (.slice x s.layer.length cc) ∧ Five u q (.string (str t.name)) (.string (str t.parent)) (.int .i64 t.kind) (.bool t.lease) (.slice y t.layer.length dd)) (by kernel_rfl) (KC.out _ (Below.refl _ _).drew) (fun hHeld => ?_)
    change wpAnyH _ _ _ _ _ _ (Array.replicate _ false) _ _
    refine tk 0 5 (.agg #[.string (str s.name), .string (str s.parent), .int .i64 s.kind, .bool s.lease, .slice x s.layer.length cc]) hHeld rfl (by kernel_rfl) (by kernel_rfl) (by kernel_rfl) (fun _ _ _ h => h) (Or.inl ⟨by rfl, ?_⟩) ?_
    · rintro w ⟨⟨q0, q1, q2, q3, q4⟩, p0, p1, p2, p3, p4⟩
      go_simp <;> (first | done | omega | (intro _; omega))
    try simp only [Act.put, List.setIfInBounds_toArray, List.set_cons_zero, List.set_cons_succ]
    refine tk 2 7 (.agg #[.string (str t.name), .string (str t.parent), .int .i64 t.kind, .bool t.lease, .slice y t.layer.length dd]) hHeld rfl (by kernel_rfl) (by kernel_rfl) (by kernel_rfl) (fun _ _ _ h => h) (Or.inl ⟨by rfl, ?_⟩) ?_
    · rintro w ⟨⟨q0, q1, q2, q3, q4⟩, p0, p1, p2, p3, p4⟩
      go_simp <;> (first | done | omega | (intro _; omega))
    try simp only [Act.put, List.setIfInBounds_toArray, List.set_cons_zero, List.set_cons_succ]
    refine wpAnyH_ready (rs := [1]) (by kernel_rfl) (by simp) ?_
    refine AllReadyH.cons rfl (fun K hK => ?_) AllReadyH.nil
    go_simp
    refine (bondOf_any s x cc _).mono ?_
    rintro r w3 ⟨rfl, hb3⟩
    have BB1 := hide ((Below.refl W0.heap.size W0).drew.trans hb3)
    clear hb3
    go_wp2_with fail
    refine hK.out _ _ (KC.out _ BB1.out) (fun hHeld => ?_)
    clear hK K
    try simp only [Act.put, List.setIfInBounds_toArray, List.set_cons_zero, List.set_cons_succ]
    refine wpAnyH_ready (rs := [3]) (by kernel_rfl) (by simp) ?_
    refine AllReadyH.cons rfl (fun K hK => ?_) AllReadyH.nil
    go_simp
    refine (bondOf_any t y dd _).mono ?_
    rintro r w4 ⟨rfl, hb4⟩
    have BB2 := hide (below_next BB1.out hb4)
    clear hb4 BB1
    go_wp2_with fail
    refine hK.out _ _ (KC.out _ BB2.out) (fun hHeld => ?_)
    clear hK K
    try simp only [Act.put, List.setIfInBounds_toArray, List.set_cons_zero, List.set_cons_succ]
    refine tk 4 9 (.bool false) hHeld rfl (by kernel_rfl) (by kernel_rfl) (by kernel_rfl) (fun _ _ _ h => h) (Or.inl ⟨by rfl, ?_⟩) ?_
    · rintro w ⟨⟨q0, q1, q2, q3, q4⟩, p0, p1, p2, p3, p4⟩
      go_simp <;> (first | done | omega | (intro _; omega))
    try simp only [Act.put, List.setIfInBounds_toArray, List.set_cons_zero, List.set_cons_succ]
    refine tk 5 10 (.bool false) hHeld rfl (by kernel_rfl) (by kernel_rfl) (by kernel_rfl) (fun _ _ _ h => h) (Or.inl ⟨by rfl, ?_⟩) ?_
    · rintro w ⟨⟨q0, q1, q2, q3, q4⟩, p0, p1, p2, p3, p4⟩
      go_simp <;> (first | done | omega | (intro _; omega))
    try simp only [Act.put, List.setIfInBounds_toArray, List.set_cons_zero, List.set_cons_succ]
    refine tk 6 11 undef hHeld rfl (by kernel_rfl) (by kernel_rfl) (by kernel_rfl) (fun _ _ _ h => h) (Or.inr ⟨by rfl, rfl⟩) ?_
    try simp only [Act.put, List.setIfInBounds_toArray, List.set_cons_zero, List.set_cons_succ]
    refine tk 7 12 undef hHeld rfl (by kernel_rfl) (by kernel_rfl) (by kernel_rfl) (fun _ _ _ h => h) (Or.inr ⟨by rfl, rfl⟩) ?_
    try simp only [Act.put, List.setIfInBounds_toArray, List.set_cons_zero, List.set_cons_succ]
    refine tk 8 13 undef hHeld rfl (by kernel_rfl) (by kernel_rfl) (by kernel_rfl) (fun _ _ _ h => h) (Or.inr ⟨by rfl, rfl⟩) ?_
    try simp only [Act.put, List.setIfInBounds_toArray, List.set_cons_zero, List.set_cons_succ]
    refine tk 9 14 undef hHeld rfl (by kernel_rfl) (by kernel_rfl) (by kernel_rfl) (fun _ _ _ h => h) (Or.inr ⟨by rfl, rfl⟩) ?_
    try simp only [Act.put, List.setIfInBounds_toArray, List.set_cons_zero, List.set_cons_succ]
    refine tk 10 15 undef hHeld rfl (by kernel_rfl) (by kernel_rfl) (by kernel_rfl) (fun _ _ _ h => h) (Or.inr ⟨by rfl, rfl⟩) ?_
    try simp only [Act.put, List.setIfInBounds_toArray, List.set_cons_zero, List.set_cons_succ]
    refine tk 11 16 (.bool false) hHeld rfl (by kernel_rfl) (by kernel_rfl) (by kernel_rfl) (fun _ _ _ h => h) (Or.inl ⟨by rfl, ?_⟩) ?_
    · rintro w ⟨⟨q0, q1, q2, q3, q4⟩, p0, p1, p2, p3, p4⟩
      go_simp <;> (first | done | omega | (intro _; omega))
    try simp only [Act.put, List.setIfInBounds_toArray, List.set_cons_zero, List.set_cons_succ]
    refine tk 12 17 (.bool false) hHeld rfl (by kernel_rfl) (by kernel_rfl) (by kernel_rfl) (fun _ _ _ h => h) (Or.inl ⟨by rfl, ?_⟩) ?_
    · rintro w ⟨⟨q0, q1, q2, q3, q4⟩, p0, p1, p2, p3, p4⟩
      go_simp <;> (first | done | omega | (intro _; omega))
    try simp only [Act.put, List.setIfInBounds_toArray, List.set_cons_zero, List.set_cons_succ]
    refine tk 13 18 undef hHeld rfl (by kernel_rfl) (by kernel_rfl) (by kernel_rfl) (fun _ _ _ h => h) (Or.inr ⟨by rfl, rfl⟩) ?_
    try simp only [Act.put, List.setIfInBounds_toArray, List.set_cons_zero, List.set_cons_succ]
    refine tk 14 19 undef hHeld rfl (by kernel_rfl) (by kernel_rfl) (by kernel_rfl) (fun _ _ _ h => h) (Or.inr ⟨by rfl, rfl⟩) ?_
    try simp only [Act.put, List.setIfInBounds_toArray, List.set_cons_zero, List.set_cons_succ]
    refine tk 15 20 undef hHeld rfl (by kernel_rfl) (by kernel_rfl) (by kernel_rfl) (fun _ _ _ h => h) (Or.inr ⟨by rfl, rfl⟩) ?_
    try simp only [Act.put, List.setIfInBounds_toArray, List.set_cons_zero, List.set_cons_succ]
    refine tk 16 21 undef hHeld rfl (by kernel_rfl) (by kernel_rfl) (by kernel_rfl) (fun _ _ _ h => h) (Or.inr ⟨by rfl, rfl⟩) ?_
    try simp only [Act.put, List.setIfInBounds_toArray, List.set_cons_zero, List.set_cons_succ]
    refine tk 17 22 undef hHeld rfl (by kernel_rfl) (by kernel_rfl) (by kernel_rfl) (fun _ _ _ h => h) (Or.inr ⟨by rfl, rfl⟩) ?_
    try simp only [Act.put, List.setIfInBounds_toArray, List.set_cons_zero, List.set_cons_succ]
    refine tk 18 23 (.bool false) hHeld rfl (by kernel_rfl) (by kernel_rfl) (by kernel_rfl) (fun _ _ _ h => h) (Or.inl ⟨by rfl, ?_⟩) ?_
    · rintro w ⟨⟨q0, q1, q2, q3, q4⟩, p0, p1, p2, p3, p4⟩
      go_simp <;> (first | done | omega | (intro _; omega))
    try simp only [Act.put, List.setIfInBounds_toArray, List.set_cons_zero, List.set_cons_succ]
    refine tk 19 24 (.bool false) hHeld rfl (by kernel_rfl) (by kernel_rfl) (by kernel_rfl) (fun _ _ _ h => h) (Or.inl ⟨by rfl, ?_⟩) ?_
    · rintro w ⟨⟨q0, q1, q2, q3, q4⟩, p0, p1, p2, p3, p4⟩
      go_simp <;> (first | done | omega | (intro _; omega))
    try simp only [Act.put, List.setIfInBounds_toArray, List.set_cons_zero, List.set_cons_succ]
    refine tk 20 25 undef hHeld rfl (by kernel_rfl) (by kernel_rfl) (by kernel_rfl) (fun _ _ _ h => h) (Or.inr ⟨by rfl, rfl⟩) ?_
    try simp only [Act.put, List.setIfInBounds_toArray, List.set_cons_zero, List.set_cons_succ]
    refine tk 21 26 undef hHeld rfl (by kernel_rfl) (by kernel_rfl) (by kernel_rfl) (fun _ _ _ h => h) (Or.inr ⟨by rfl, rfl⟩) ?_
    try simp only [Act.put, List.setIfInBounds_toArray, List.set_cons_zero, List.set_cons_succ]
    refine tk 22 27 undef hHeld rfl (by kernel_rfl) (by kernel_rfl) (by kernel_rfl) (fun _ _ _ h => h) (Or.inr ⟨by rfl, rfl⟩) ?_
    try simp only [Act.put, List.setIfInBounds_toArray, List.set_cons_zero, List.set_cons_succ]
    refine tk 23 28 undef hHeld rfl (by kernel_rfl) (by kernel_rfl) (by kernel_rfl) (fun _ _ _ h => h) (Or.inr ⟨by rfl, rfl⟩) ?_
    try simp only [Act.put, List.setIfInBounds_toArray, List.set_cons_zero, List.set_cons_succ]
    refine tk 24 29 undef hHeld rfl (by kernel_rfl) (by kernel_rfl) (by kernel_rfl) (fun _ _ _ h => h) (Or.inr ⟨by rfl, rfl⟩) ?_
    try simp only [Act.put, List.setIfInBounds_toArray, List.set_cons_zero, List.set_cons_succ]
    refine tk 25 30 (.bool false) hHeld rfl (by kernel_rfl) (by kernel_rfl) (by kernel_rfl) (fun _ _ _ h => h) (Or.inl ⟨by rfl, ?_⟩) ?_
    · rintro w ⟨⟨q0, q1, q2, q3, q4⟩, p0, p1, p2, p3, p4⟩
      go_simp <;> (first | done | omega | (intro _; omega))
    try simp only [Act.put, List.setIfInBounds_toArray, List.set_cons_zero, List.set_cons_succ]
    refine tk 26 4 (.bool false) hHeld rfl (by kernel_rfl) (by kernel_rfl) (by kernel_rfl) (fun _ _ _ h => h) (Or.inl ⟨by rfl, ?_⟩) ?_
    · rintro w ⟨⟨q0, q1, q2, q3, q4⟩, p0, p1, p2, p3, p4⟩
      go_simp <;> (first | done | omega | (intro _; omega))
    try simp only [Act.put, List.setIfInBounds_toArray, List.set_cons_zero, List.set_cons_succ]
    refine wpAnyH_done (by kernel_rfl) ?_ _
    go_wp2_with fail
    go_ret
    exact ⟨_, rfl, HX.out, below_next HB.out BB2.out⟩
theorem ne_atN {l m : List Sn} {j : Nat} {s t : Sn} (he : l[j]? = some s) (hf : m[j]? = some t) (h : s ≠ t) : l ≠ m := fun e => by
  rw [e, hf] at he
  exact h (Option.some.inj he).symm
set_option maxRecDepth 100000 in
set_option maxHeartbeats 3200000 in
theorem equalFuncN_any (a b : Option Addr) (c d n m : Nat) (es fs : List Sn) (w : World) (h : RdS w a es) (h2 : RdS w b fs) (hn : n = es.length) (hm : m = fs.length) (hs : SmallS es) (hs2 : SmallS fs) :
    Calls Try.prog 17 #[.slice a n c, .slice b m d, .func (.func 18) #[] #[]] w (AnsB (es = fs) w) := by
  subst hn hm
  have hl := hs.1
  have hl2 := hs2.1
  have HA := hide h
  have HB := hide h2
  have HS := hide hs
  have HS2 := hide hs2
  clear h h2 hs hs2
  by_cases hlen : es.length = fs.length
  · have hne : ((es.length : Int) != (fs.length : Int)) = false := by simp [hlen]
    have HL := hide hlen
    clear hlen
    go_enter Try.func17, Try.ntmps17
    go_wp2_with fail
    go_loopw [17] (fun i wr => ∃ k : Nat, k ≤ es.length ∧ i = .int .i64 k ∧ Hid (es.take k = fs.take k) ∧ Hid (Below w.heap.size w wr)) (fun i _ => es.length - (intOf i).toNat)
    case atStart => exact ⟨0, Nat.zero_le _, rfl, hide rfl, hide (Below.refl _ _)⟩
    case round =>
      obtain ⟨k, hk, rfl, HT, HW⟩ := hrel
      by_cases hlt : k < es.length
      · obtain ⟨b1, o1, s, x, cc, rfl, hb1, he, p0, p1, p2, p3, p4, r1⟩ := (HA.out.below HW.out).at hlt
        obtain ⟨b2, o2, t, y, dd, rfl, hb2, hf, q0, q1, q2, q3, q4, r2⟩ := (HB.out.below HW.out).at (show k < fs.length by have := HL.out; omega)
        have hsm := HS.out.2 s (List.mem_of_getElem? he)
        have hsm2 := HS2.out.2 t (List.mem_of_getElem? hf)
        have HX := hide he
        have HX2 := hide hf
        have R1 := hide r1
        have R2 := hide r2
        clear he hf r1 r2
        have hkl : (k : Int) < (fs.length : Int) := by have := HL.out; omega
        have BA := hide (below_next (below_alloc wr (.cells #[.string (str s.name), .string (str s.parent), .int .i64 s.kind, .bool s.lease, .slice x s.layer.length cc] 61)) (below_alloc _ (.cells #[.string (str t.name), .string (str t.parent), .int .i64 t.kind, .bool t.lease, .slice y t.layer.length dd] 61)))
        go_wp2_with fail
        refine (sameSnaps_any s t x y cc dd _ (R1.out.below BA.out) (R2.out.below BA.out) hsm.2.2.1 hsm2.2.2.1 hsm.2.2.2 hsm2.2.2.2).mono ?_
        rintro r w3 ⟨z, rfl, hiff, hb3⟩
        have HW3 := hide (below_next HW.out (below_next BA.out hb3))
        have HI := hide hiff
        clear hb3 p0 p1 p2 p3 p4 q0 q1 q2 q3 q4 hiff
        cases z with
        | true =>
          have HT2 := hide (take_both HX.out HX2.out HT.out (HI.out.1 rfl))
          go_wp2_with fail
          go_roundw
          case rel => exact ⟨k + 1, by omega, by go_num, HT2, HW3⟩
          case measure => simp [intOf]; omega
        | false =>
          have HE := hide (show false = true ↔ es = fs from ⟨fun e => Bool.noConfusion e, fun e => absurd e (ne_atN HX.out HX2.out (fun e9 => by have := HI.out.2 e9; cases this))⟩)
          go_wp2_with fail
          go_ret
          exact ⟨_, rfl, HE.out, HW3.out⟩
      · have hke : k = es.length := by omega
        have HE := hide (show es = fs from take_whole HT.out (by omega) (by have := HL.out; omega))
        clear hke
        go_wp2_with fail
        go_ret
        exact ⟨_, rfl, ⟨fun _ => HE.out, fun _ => rfl⟩, HW.out⟩
  · have hne : ((es.length : Int) != (fs.length : Int)) = true := by simp; omega
    have HE := hide (show false = true ↔ es = fs from ⟨fun e => Bool.noConfusion e, fun e => absurd (by rw [e]) hlen⟩)
    clear hlen
    go_enter Try.func17, Try.ntmps17
    go_wp2_with fail
    go_ret
    exact ⟨_, rfl, HE.out, Below.refl _ _⟩
set_option maxHeartbeats 800000 in
theorem equalB_any (a b : Option Addr) (ca cb : Nat) (xs ys : List Int) (w : World) (ha : Reads .u8 w a xs) (hb : Reads .u8 w b ys) (hl : xs.length ≤ 1048576) (hl2 : ys.length ≤ 1048576) :
    Calls Try.prog 54 #[.slice a xs.length ca, .slice b ys.length cb] w fun e w' => e = .returned (.bool (xs == ys)) ∧ ∃ n, w' = w.drewN n := by
  by_cases hlen : xs.length = ys.length
  · have hne : ((xs.length : Int) != (ys.length : Int)) = false := by simp [hlen]
    go_enter Try.func54, Try.ntmps54
    go_wp2
    go_loopw [13] (fun i wr => ∃ k : Nat, k ≤ xs.length ∧ i = .int .i64 k ∧ xs.take k = ys.take k ∧ ∃ n, wr = w.drewN n) (fun i _ => xs.length - (intOf i).toNat)
    case atStart => exact ⟨0, Nat.zero_le _, rfl, rfl, 0, rfl⟩
    case round =>
      obtain ⟨k, hk, rfl, htk, n, rfl⟩ := hrel
      have HT := hide htk
      clear htk
      by_cases hlt : k < xs.length
      · obtain ⟨b1, o1, rfl, hb1, hc1⟩ := ha (by intro e; simp [e] at hlt)
        obtain ⟨b2, o2, rfl, hb2, hc2⟩ := hb (by intro e; rw [e] at hlen; simp at hlen; simp [hlen] at hlt)
        obtain ⟨x, hx⟩ : ∃ x, x = xs.getD k 0 := ⟨_, rfl⟩
        obtain ⟨y, hy⟩ : ∃ y, y = ys.getD k 0 := ⟨_, rfl⟩
        have c1 : w.cell? ⟨b1, o1 + k, none⟩ = some (.int .u8 x) := by rw [hx]; exact hc1 k hlt
        have c2 : w.cell? ⟨b2, o2 + k, none⟩ = some (.int .u8 y) := by rw [hy]; exact hc2 k (by omega)
        have HX := hide hx
        have HY := hide hy
        clear hc1 hc2 ha hb hx hy
        have hk2 : k < ys.length := by omega
        by_cases heq : x = y
        · have hb : (x != y) = false := by simp [heq]
          have HE := hide heq
          clear heq
          go_wp2
          go_quiet (fail)
          go_wp2
          go_roundw
          case rel => exact ⟨k + 1, by omega, by go_num, take_eq_step hlt hk2 HT.out (by rw [← HX.out, ← HY.out]; exact HE.out), _, rfl⟩
          case measure => simp [intOf]; omega
        · have hb : (x != y) = true := by simp [heq]
          go_wp2
          go_quiet (fail)
          go_wp2
          go_ret
          exact ⟨ret_bool (ne_of_getD (k := k) (by rw [← HX.out, ← HY.out]; exact heq)).symm, _, World.drewN_drewN _ _ _⟩
      · go_wp2
        go_ret
        exact ⟨ret_bool (eq_of_take (k := k) (by omega) (by omega) HT.out).symm, _, rfl⟩
  · have hne : ((xs.length : Int) != (ys.length : Int)) = true := by simp; omega
    go_enter Try.func54, Try.ntmps54
    go_wp2
    go_ret
    have e : (xs == ys) = false := by simp; intro e; exact hlen (by rw [e])
    exact ⟨ret_bool e.symm, 0, rfl⟩
theorem take_eqW {xs ys : List Wn} {k : Nat} (h1 : k < xs.length) (h2 : k < ys.length) (h : xs.take k = ys.take k) (e : xs.getD k (0, 0) = ys.getD k (0, 0)) : xs.take (k + 1) = ys.take (k + 1) := by
  rw [List.take_succ_eq_append_getElem h1, List.take_succ_eq_append_getElem h2, h]
  simp [List.getD_eq_getElem?_getD, h1, h2] at e
  rw [e]
set_option maxHeartbeats 1600000 in
theorem equalW_any (a b : Option Addr) (ca cb : Nat) (xs ys : List Wn) (w : World) (ha : RdW w a xs) (hb : RdW w b ys) (hl : xs.length ≤ 1048576) (hl2 : ys.length ≤ 1048576) :
    Calls Try.prog 36 #[.slice a xs.length ca, .slice b ys.length cb] w (AnsB (xs = ys) w) := by
  by_cases hlen : xs.length = ys.length
  · have hne : ((xs.length : Int) != (ys.length : Int)) = false := by simp [hlen]
    go_enter Try.func36, Try.ntmps36
    go_wp2
    go_loopw [13] (fun i wr => ∃ k : Nat, k ≤ xs.length ∧ i = .int .i64 k ∧ xs.take k = ys.take k ∧ ∃ n, wr = w.drewN n) (fun i _ => xs.length - (intOf i).toNat)
    case atStart => exact ⟨0, Nat.zero_le _, rfl, rfl, 0, rfl⟩
    case round =>
      obtain ⟨k, hk, rfl, htk, n, rfl⟩ := hrel
      have HT := hide htk
      clear htk
      by_cases hlt : k < xs.length
      · obtain ⟨b1, o1, rfl, hb1, hc1⟩ := ha (by intro e; simp [e] at hlt)
        obtain ⟨b2, o2, rfl, hb2, hc2⟩ := hb (by intro e; rw [e] at hlen; simp at hlen; simp [hlen] at hlt)
        obtain ⟨x0, x1, hx⟩ : ∃ x0 x1, (x0, x1) = xs.getD k (0, 0) := ⟨_, _, rfl⟩
        obtain ⟨y0, y1, hy⟩ : ∃ y0 y1, (y0, y1) = ys.getD k (0, 0) := ⟨_, _, rfl⟩
        have c1 : w.cell? ⟨b1, o1 + k * 2, none⟩ = some (.int .i64 x0) := by have := (hc1 k hlt).1; rw [← hx] at this; exact this
        have d1 : w.cell? ⟨b1, o1 + k * 2 + 1, none⟩ = some (.int .i64 x1) := by have := (hc1 k hlt).2; rw [← hx] at this; exact this
        have c2 : w.cell? ⟨b2, o2 + k * 2, none⟩ = some (.int .i64 y0) := by have := (hc2 k (by omega)).1; rw [← hy] at this; exact this
        have d2 : w.cell? ⟨b2, o2 + k * 2 + 1, none⟩ = some (.int .i64 y1) := by have := (hc2 k (by omega)).2; rw [← hy] at this; exact this
        have HX := hide hx
        have HY := hide hy
        clear hc1 hc2 ha hb hx hy
        have hk2 : k < ys.length := by omega
        by_cases h0 : x0 = y0
        · have e0 : (x0 == y0) = true := by simp [h0]
          by_cases h1 : x1 = y1
          · have e1 : (x1 == y1) = true := by simp [h1]
            have HE := hide (show (x0, x1) = (y0, y1) by rw [h0, h1])
            clear h0 h1
            go_wp2
            go_quiet (fail)
            go_wp2
            go_roundw
            case rel => exact ⟨k + 1, by omega, by go_num, take_eqW hlt hk2 HT.out (by rw [← HX.out, ← HY.out]; exact HE.out), _, rfl⟩
            case measure => simp [intOf]; omega
          · have e1 : (x1 == y1) = false := by simp [h1]
            have HE := hide (show false = true ↔ xs = ys from ⟨fun e => Bool.noConfusion e, fun e => by rw [e, ← HY.out] at HX; exact absurd (congrArg Prod.snd HX.out) h1⟩)
            clear h0 h1
            go_wp2
            go_quiet (fail)
            go_wp2
            go_ret
            exact ⟨_, rfl, HE.out, below_drewN (below_drewN (Below.refl _ _) _) _⟩
        · have e0 : (x0 == y0) = false := by simp [h0]
          have HE := hide (show false = true ↔ xs = ys from ⟨fun e => Bool.noConfusion e, fun e => by rw [e, ← HY.out] at HX; exact absurd (congrArg Prod.fst HX.out) h0⟩)
          clear h0
          go_wp2
          go_quiet (fail)
          go_wp2
          go_ret
          exact ⟨_, rfl, HE.out, below_drewN (below_drewN (Below.refl _ _) _) _⟩
      · have HE := hide (show xs = ys from take_whole HT.out (by omega) (by omega))
        go_wp2
        go_ret
        exact ⟨_, rfl, ⟨fun _ => HE.out, fun _ => rfl⟩, below_drewN (Below.refl _ _) _⟩
  · have hne : ((xs.length : Int) != (ys.length : Int)) = true := by simp; omega
    have HE := hide (show false = true ↔ xs = ys from ⟨fun e => Bool.noConfusion e, fun e => absurd (by rw [e]) hlen⟩)
    go_enter Try.func36, Try.ntmps36
    go_wp2
    go_ret
    exact ⟨_, rfl, HE.out, Below.refl _ _⟩
set_option maxHeartbeats 1600000 in
theorem sameChunks_any (d d' : Int) (x y : Option Addr) (cc dd : Nat) (xs ys : List Int) (w : World) (h : Reads .u8 w x xs) (h2 : Reads .u8 w y ys) (hl : xs.length ≤ 1048576) (hl2 : ys.length ≤ 1048576) :
    Calls Try.prog 39 #[.agg #[.int .i64 d, .slice x xs.length cc], .agg #[.int .i64 d', .slice y ys.length dd]] w (AnsB (d = d' ∧ xs = ys) w) := by
  have HB := hide (below_next (below_alloc w (.cells #[.int .i64 d, .slice x xs.length cc] 54)) (below_alloc _ (.cells #[.int .i64 d', .slice y ys.length dd] 54)))
  have HC := hide (equalB_any x y cc dd xs ys _ (h.below HB.out) (h2.below HB.out) hl hl2)
  clear h h2
  by_cases hd : d = d'
  · have hb : (d == d') = true := by simp [hd]
    obtain ⟨Z, hZ⟩ : ∃ Z : Bool, Z = (xs == ys) := ⟨_, rfl⟩
    rw [← hZ] at HC
    have HI := hide (show Z = true ↔ d = d' ∧ xs = ys from ⟨fun e => ⟨hd, by rw [hZ] at e; exact eq_of_beq e⟩, fun e => by rw [hZ, e.2]; simp⟩)
    clear hd hZ
    go_enter Try.func39, Try.ntmps39
    go_wp2_with fail
    refine HC.out.mono ?_
    rintro r w1 ⟨rfl, n, rfl⟩
    go_wp2_with fail
    go_ret
    exact ⟨_, rfl, HI.out, below_drewN HB.out n⟩
  · have hb : (d == d') = false := by simp [hd]
    have HI := hide (show false = true ↔ d = d' ∧ xs = ys from ⟨fun e => Bool.noConfusion e, fun e => absurd e.1 hd⟩)
    clear hd
    go_enter Try.func39, Try.ntmps39
    go_wp2_with fail
    go_ret
    exact ⟨_, rfl, HI.out, HB.out⟩
def SameC (D : Nat → Int) (P : Nat → List Int) (n : Nat) (D' : Nat → Int) (P' : Nat → List Int) (m : Nat) : Prop := n = m ∧ ∀ i, i < n → D i = D' i ∧ P i = P' i
set_option maxRecDepth 100000 in
set_option maxHeartbeats 3200000 in
theorem equalFuncC_any (a b : Option Addr) (c d n m : Nat) (D D' : Nat → Int) (P P' : Nat → List Int) (w : World) (h : RdC w a D P n) (h2 : RdC w b D' P' m) (hl : n ≤ 1048576) (hl2 : m ≤ 1048576) (hP : ∀ i, i < n → (P i).length ≤ 1048576) (hP2 : ∀ i, i < m → (P' i).length ≤ 1048576) :
    Calls Try.prog 38 #[.slice a n c, .slice b m d, .func (.func 39) #[] #[]] w (AnsB (SameC D P n D' P' m) w) := by
  have HA := hide h
  have HB := hide h2
  have HP := hide hP
  have HP2 := hide hP2
  clear h h2 hP hP2
  by_cases hlen : n = m
  · have hne : ((n : Int) != (m : Int)) = false := by simp [hlen]
    have HL := hide hlen
    clear hlen
    go_enter Try.func38, Try.ntmps38
    go_wp2_with fail
    go_loopw [17] (fun i wr => ∃ k : Nat, k ≤ n ∧ i = .int .i64 k ∧ Hid (∀ i, i < k → D i = D' i ∧ P i = P' i) ∧ Hid (Below w.heap.size w wr)) (fun i _ => n - (intOf i).toNat)
    case atStart => exact ⟨0, Nat.zero_le _, rfl, hide (fun i hi => absurd hi (by omega)), hide (Below.refl _ _)⟩
    case round =>
      obtain ⟨k, hk, rfl, HT, HW⟩ := hrel
      by_cases hlt : k < n
      · have hltm : k < m := by have := HL.out; omega
        obtain ⟨b1, o1, A1, C1, rfl, hb1, hc1⟩ := (HA.out.below HW.out) (by omega)
        obtain ⟨p0, p1, r1⟩ := hc1 k hlt
        obtain ⟨b2, o2, A2, C2, rfl, hb2, hc2⟩ := (HB.out.below HW.out) (by omega)
        obtain ⟨q0, q1, r2⟩ := hc2 k hltm
        have hsm := HP.out k hlt
        have hsm2 := HP2.out k hltm
        have R1 := hide r1
        have R2 := hide r2
        have HNX := hide (show ∀ i, i < k + 1 → (i < k ∨ i = k) from fun i hi => by omega)
        obtain ⟨xs, hxs⟩ : ∃ xs, xs = P k := ⟨_, rfl⟩
        obtain ⟨ys, hys⟩ : ∃ ys, ys = P' k := ⟨_, rfl⟩
        obtain ⟨e, he⟩ : ∃ e, e = D k := ⟨_, rfl⟩
        obtain ⟨f, hf⟩ : ∃ f, f = D' k := ⟨_, rfl⟩
        rw [← hxs] at p1 R1 hsm
        rw [← hys] at q1 R2 hsm2
        rw [← he] at p0
        rw [← hf] at q0
        have HEQ := hide (And.intro (And.intro hxs hys) (And.intro he hf))
        clear hc1 hc2 r1 r2 hxs hys he hf
        generalize A1 k = x at *
        generalize C1 k = cc at *
        generalize A2 k = y at *
        generalize C2 k = dd at *
        have hkl : (k : Int) < (m : Int) := by omega
        have BA := hide (below_next (below_alloc wr (.cells #[.int .i64 e, .slice x xs.length cc] 54)) (below_alloc _ (.cells #[.int .i64 f, .slice y ys.length dd] 54)))
        go_wp2_with fail
        refine (sameChunks_any e f x y cc dd xs ys _ (R1.out.below BA.out) (R2.out.below BA.out) hsm hsm2).mono ?_
        rintro r w3 ⟨z, rfl, hiff, hb3⟩
        have HW3 := hide (below_next HW.out (below_next BA.out hb3))
        have HI := hide hiff
        clear hb3 p0 p1 q0 q1 hiff
        cases z with
        | true =>
          have HT2 := hide (show ∀ i, i < k + 1 → D i = D' i ∧ P i = P' i from fun i hi => by
            rcases HNX.out i hi with h | h
            · exact HT.out i h
            · subst h
              obtain ⟨⟨h1, h2⟩, h3, h4⟩ := HEQ.out
              obtain ⟨g1, g2⟩ := HI.out.1 rfl
              exact ⟨by rw [← h3, ← h4]; exact g1, by rw [← h1, ← h2]; exact g2⟩)
          go_wp2_with fail
          go_roundw
          case rel => exact ⟨k + 1, by omega, by go_num, HT2, HW3⟩
          case measure => simp [intOf]; omega
        | false =>
          have HE := hide (show false = true ↔ SameC D P n D' P' m from ⟨fun e => Bool.noConfusion e, fun h9 => by
            obtain ⟨g1, g2⟩ := h9.2 k hlt
            obtain ⟨⟨h1, h2⟩, h3, h4⟩ := HEQ.out
            exact HI.out.2 ⟨by rw [h3, h4]; exact g1, by rw [h1, h2]; exact g2⟩⟩)
          go_wp2_with fail
          go_ret
          exact ⟨_, rfl, HE.out, HW3.out⟩
      · have HE := hide (show SameC D P n D' P' m from ⟨HL.out, fun i hi => HT.out i (by omega)⟩)
        go_wp2_with fail
        go_ret
        exact ⟨_, rfl, ⟨fun _ => HE.out, fun _ => rfl⟩, HW.out⟩
  · have hne : ((n : Int) != (m : Int)) = true := by simp; omega
    have HE := hide (show false = true ↔ SameC D P n D' P' m from ⟨fun e => Bool.noConfusion e, fun h9 => absurd h9.1 hlen⟩)
    clear hlen
    go_enter Try.func38, Try.ntmps38
    go_wp2_with fail
    go_ret
    exact ⟨_, rfl, HE.out, Below.refl _ _⟩
def SameF (W : List Wn) (F : List Int) (D : Nat → Int) (P : Nat → List Int) (n : Nat) (W' : List Wn) (F' : List Int) (D' : Nat → Int) (P' : Nat → List Int) (n' : Nat) : Prop := W = W' ∧ F = F' ∧ SameC D P n D' P' n'
set_option maxRecDepth 100000 in
set_option maxHeartbeats 3200000 in
theorem sameFetches_any (wa : Option Addr) (wc : Nat) (W : List Wn) (fa : Option Addr) (fc : Nat) (F : List Int) (ca : Option Addr) (cc n : Nat) (D : Nat → Int) (P : Nat → List Int) (wa' : Option Addr) (wc' : Nat) (W' : List Wn) (fa' : Option Addr) (fc' : Nat) (F' : List Int) (ca' : Option Addr) (cc' n' : Nat) (D' : Nat → Int) (P' : Nat → List Int) (w : World) (h : RdF w wa W fa F ca D P n) (h2 : RdF w wa' W' fa' F' ca' D' P' n') (hW : W.length ≤ 1048576) (hF : F.length ≤ 1048576) (hn : n ≤ 1048576) (hP : ∀ i, i < n → (P i).length ≤ 1048576) (hW' : W'.length ≤ 1048576) (hF' : F'.length ≤ 1048576) (hn' : n' ≤ 1048576) (hP' : ∀ i, i < n' → (P' i).length ≤ 1048576) :
    Calls Try.prog 19 #[.agg #[.slice wa W.length wc, .slice fa F.length fc, .slice ca n cc], .agg #[.slice wa' W'.length wc', .slice fa' F'.length fc', .slice ca' n' cc']] w (AnsB (SameF W F D P n W' F' D' P' n') w) := by
  have HB := hide (below_next (below_alloc w (.cells #[.slice wa W.length wc, .slice fa F.length fc, .slice ca n cc] 39)) (below_alloc _ (.cells #[.slice wa' W'.length wc', .slice fa' F'.length fc', .slice ca' n' cc'] 39)))
  have X1 := hide ((Bx3.new w (.slice wa W.length wc) (.slice fa F.length fc) (.slice ca n cc) 39).below (below_alloc _ (.cells #[.slice wa' W'.length wc', .slice fa' F'.length fc', .slice ca' n' cc'] 39)))
  have X2 := hide (Bx3.new (w.alloc (.cells #[.slice wa W.length wc, .slice fa F.length fc, .slice ca n cc] 39)) (.slice wa' W'.length wc') (.slice fa' F'.length fc') (.slice ca' n' cc') 39)
  have h1 : (w.alloc (.cells #[.slice wa W.length wc, .slice fa F.length fc, .slice ca n cc] 39)).heap.size = w.heap.size + 1 := by simp
  rw [h1] at X2
  clear h1
  have H1 := hide (fun u (hu : Below w.heap.size w u) => equalW_any wa wa' wc wc' W W' u (h.wants.below hu) (h2.wants.below hu) hW hW')
  have H2 := hide (fun u (hu : Below w.heap.size w u) => equal_any fa fa' fc fc' F F' u (h.failed.below hu) (h2.failed.below hu) hF hF')
  have H3 := hide (fun u (hu : Below w.heap.size w u) => equalFuncC_any ca ca' cc cc' n n' D D' P P' u (h.chunks.below hu) (h2.chunks.below hu) hn hn' hP hP')
  clear h h2 hP hP'
  go_enter Try.func19, Try.ntmps19
  go_wp2_with fail
  generalize (w.alloc (.cells #[.slice wa W.length wc, .slice fa F.length fc, .slice ca n cc] 39)).alloc (.cells #[.slice wa' W'.length wc', .slice fa' F'.length fc', .slice ca' n' cc'] 39) = W0 at *
  refine (H1.out _ HB.out).mono ?_
  rintro r w1 ⟨z, rfl, hiff, hb1⟩
  have HI := hide hiff
  have B1 := hide (below_next HB.out hb1)
  have Y1 := hide (X1.out.below hb1)
  have Y2 := hide (X2.out.below hb1)
  clear hiff hb1 X1 X2
  cases z with
  | false =>
    have HX := hide (show false = true ↔ SameF W F D P n W' F' D' P' n' from ⟨fun e => Bool.noConfusion e, fun e => HI.out.2 e.1⟩)
    go_wp2_with fail
    go_ret
    exact ⟨_, rfl, HX.out, B1.out⟩
  | true =>
    have HWe := hide (HI.out.1 rfl)
    obtain ⟨⟨m0, m1, m2⟩, -⟩ := Y1.out
    obtain ⟨⟨k0, k1, k2⟩, -⟩ := Y2.out
    go_wp2_with fail
    refine (H2.out _ B1.out).mono ?_
    rintro r w2 ⟨rfl, dn, rfl⟩
    have B2 := hide (below_drewN B1.out dn)
    obtain ⟨⟨m0', m1', m2'⟩, -⟩ := Y1.out.below (below_drewN (Below.refl w1.heap.size w1) dn)
    obtain ⟨⟨k0', k1', k2'⟩, -⟩ := Y2.out.below (below_drewN (Below.refl w1.heap.size w1) dn)
    clear m0 m1 m2 k0 k1 k2
    generalize w1.drewN dn = w2 at *
    obtain ⟨Z, hZ⟩ : ∃ Z : Bool, Z = (F == F') := ⟨_, rfl⟩
    rw [← hZ]
    have HZ := hide (show Z = true ↔ F = F' from by rw [hZ]; exact ⟨fun e => eq_of_beq e, fun e => by rw [e]; simp⟩)
    clear hZ
    cases Z with
    | false =>
      have HX := hide (show false = true ↔ SameF W F D P n W' F' D' P' n' from ⟨fun e => Bool.noConfusion e, fun e => HZ.out.2 e.2.1⟩)
      go_wp2_with fail
      go_ret
      exact ⟨_, rfl, HX.out, B2.out⟩
    | true =>
      have HFe := hide (HZ.out.1 rfl)
      go_wp2_with fail
      refine (H3.out _ B2.out).mono ?_
      rintro r w3 ⟨z, rfl, hiff, hb3⟩
      have HX := hide (show z = true ↔ SameF W F D P n W' F' D' P' n' from ⟨fun e => ⟨HWe.out, HFe.out, hiff.1 e⟩, fun e => hiff.2 e.2.2⟩)
      have B3 := hide (below_next B2.out hb3)
      clear hiff hb3 m0' m1' m2' k0' k1' k2'
      go_wp2_with fail
      go_ret
      exact ⟨_, rfl, HX.out, B3.out⟩
def Six (w : World) (b : Nat) (u0 u1 u2 u3 u4 u5 : Value) : Prop := w.cell? ⟨b, 0, none⟩ = some u0 ∧ w.cell? ⟨b, 1, none⟩ = some u1 ∧ w.cell? ⟨b, 2, none⟩ = some u2 ∧ w.cell? ⟨b, 3, none⟩ = some u3 ∧ w.cell? ⟨b, 4, none⟩ = some u4 ∧ w.cell? ⟨b, 5, none⟩ = some u5
theorem Six.new (w : World) (u0 u1 u2 u3 u4 u5 : Value) (t : TypeId) : Six (w.alloc (.cells #[u0, u1, u2, u3, u4, u5] t)) w.heap.size u0 u1 u2 u3 u4 u5 := ⟨by simp, by simp, by simp, by simp, by simp, by simp⟩
theorem Six.lt {w : World} {b : Nat} {u0 u1 u2 u3 u4 u5 : Value} (h : Six w b u0 u1 u2 u3 u4 u5) : b < w.heap.size := World.block_lt_of_cell? w ⟨b, 0, none⟩ h.1
theorem Six.kept {S : Nat → Prop} {w w' : World} {b : Nat} {u0 u1 u2 u3 u4 u5 : Value} (h : Six w b u0 u1 u2 u3 u4 u5) (hk : Kept S w w') (hn : ¬ S b) : Six w' b u0 u1 u2 u3 u4 u5 :=
  ⟨(hk.cell (p := ⟨b, 0, none⟩) h.lt hn).trans h.1, (hk.cell (p := ⟨b, 1, none⟩) h.lt hn).trans h.2.1, (hk.cell (p := ⟨b, 2, none⟩) h.lt hn).trans h.2.2.1, (hk.cell (p := ⟨b, 3, none⟩) h.lt hn).trans h.2.2.2.1, (hk.cell (p := ⟨b, 4, none⟩) h.lt hn).trans h.2.2.2.2.1, (hk.cell (p := ⟨b, 5, none⟩) h.lt hn).trans h.2.2.2.2.2⟩
theorem Six.below {w w' : World} {b : Nat} {u0 u1 u2 u3 u4 u5 : Value} (h : Six w b u0 u1 u2 u3 u4 u5) (hk : Below w.heap.size w w') : Six w' b u0 u1 u2 u3 u4 u5 := h.kept (S := fun _ => False) (Kept.of_below hk) id
def SameX (l : List Sn) (W : List Wn) (F : List Int) (D : Nat → Int) (P : Nat → List Int) (n : Nat) (l' : List Sn) (W' : List Wn) (F' : List Int) (D' : Nat → Int) (P' : Nat → List Int) (n' : Nat) : Prop := l = l' ∧ SameF W F D P n W' F' D' P' n'
set_option maxRecDepth 100000 in
set_option maxHeartbeats 3200000 in
theorem implSameStores_any (sa : Option Addr) (sc : Nat) (l : List Sn) (wa : Option Addr) (wc : Nat) (W : List Wn) (fa : Option Addr) (fc : Nat) (F : List Int) (ca : Option Addr) (cc n : Nat) (D : Nat → Int) (P : Nat → List Int) (ga : Option Addr) (gn gc : Nat) (la : Option Addr) (ln lc : Nat) (sa' : Option Addr) (sc' : Nat) (l' : List Sn) (wa' : Option Addr) (wc' : Nat) (W' : List Wn) (fa' : Option Addr) (fc' : Nat) (F' : List Int) (ca' : Option Addr) (cc' n' : Nat) (D' : Nat → Int) (P' : Nat → List Int) (ga' : Option Addr) (gn' gc' : Nat) (la' : Option Addr) (ln' lc' : Nat) (w : World) (h0 : RdS w sa l) (h0' : RdS w sa' l') (h : RdF w wa W fa F ca D P n) (h2 : RdF w wa' W' fa' F' ca' D' P' n') (hs : SmallS l) (hs' : SmallS l') (hW : W.length ≤ 1048576) (hF : F.length ≤ 1048576) (hn : n ≤ 1048576) (hP : ∀ i, i < n → (P i).length ≤ 1048576) (hW' : W'.length ≤ 1048576) (hF' : F'.length ≤ 1048576) (hn' : n' ≤ 1048576) (hP' : ∀ i, i < n' → (P' i).length ≤ 1048576) :
    Calls Try.prog 7 #[.agg #[.slice sa l.length sc, .slice wa W.length wc, .slice fa F.length fc, .slice ca n cc, .slice ga gn gc, .slice la ln lc], .agg #[.slice sa' l'.length sc', .slice wa' W'.length wc', .slice fa' F'.length fc', .slice ca' n' cc', .slice ga' gn' gc', .slice la' ln' lc']] w (AnsB (SameX l W F D P n l' W' F' D' P' n') w) := by
  have HB := hide (below_next (below_alloc w (.cells #[.slice sa l.length sc, .slice wa W.length wc, .slice fa F.length fc, .slice ca n cc, .slice ga gn gc, .slice la ln lc] 42)) (below_alloc _ (.cells #[.slice sa' l'.length sc', .slice wa' W'.length wc', .slice fa' F'.length fc', .slice ca' n' cc', .slice ga' gn' gc', .slice la' ln' lc'] 42)))
  have X1 := hide ((Six.new w (.slice sa l.length sc) (.slice wa W.length wc) (.slice fa F.length fc) (.slice ca n cc) (.slice ga gn gc) (.slice la ln lc) 42).below (below_alloc _ (.cells #[.slice sa' l'.length sc', .slice wa' W'.length wc', .slice fa' F'.length fc', .slice ca' n' cc', .slice ga' gn' gc', .slice la' ln' lc'] 42)))
  have X2 := hide (Six.new (w.alloc (.cells #[.slice sa l.length sc, .slice wa W.length wc, .slice fa F.length fc, .slice ca n cc, .slice ga gn gc, .slice la ln lc] 42)) (.slice sa' l'.length sc') (.slice wa' W'.length wc') (.slice fa' F'.length fc') (.slice ca' n' cc') (.slice ga' gn' gc') (.slice la' ln' lc') 42)
  have h1 : (w.alloc (.cells #[.slice sa l.length sc, .slice wa W.length wc, .slice fa F.length fc, .slice ca n cc, .slice ga gn gc, .slice la ln lc] 42)).heap.size = w.heap.size + 1 := by simp
  rw [h1] at X2
  clear h1
  have H1 := hide (fun u (hu : Below w.heap.size w u) => equalFuncN_any sa sa' sc sc' l.length l'.length l l' u (h0.below hu) (h0'.below hu) rfl rfl hs hs')
  have H2 := hide (fun u (hu : Below w.heap.size w u) => sameFetches_any wa wc W fa fc F ca cc n D P wa' wc' W' fa' fc' F' ca' cc' n' D' P' u (h.below hu) (h2.below hu) hW hF hn hP hW' hF' hn' hP')
  clear h h2 hP hP' h0 h0' hs hs'
  go_enter Try.func7, Try.ntmps7
  go_wp2_with fail
  generalize (w.alloc (.cells #[.slice sa l.length sc, .slice wa W.length wc, .slice fa F.length fc, .slice ca n cc, .slice ga gn gc, .slice la ln lc] 42)).alloc (.cells #[.slice sa' l'.length sc', .slice wa' W'.length wc', .slice fa' F'.length fc', .slice ca' n' cc', .slice ga' gn' gc', .slice la' ln' lc'] 42) = W0 at *
  refine (H1.out _ HB.out).mono ?_
  rintro r w1 ⟨z, rfl, hiff, hb1⟩
  have HI := hide hiff
  have B1 := hide (below_next HB.out hb1)
  have Y1 := hide (X1.out.below hb1)
  have Y2 := hide (X2.out.below hb1)
  clear hiff hb1 X1 X2
  cases z with
  | false =>
    have HX := hide (show false = true ↔ SameX l W F D P n l' W' F' D' P' n' from ⟨fun e => Bool.noConfusion e, fun e => HI.out.2 e.1⟩)
    go_wp2_with fail
    go_ret
    exact ⟨_, rfl, HX.out, B1.out⟩
  | true =>
    have HLe := hide (HI.out.1 rfl)
    obtain ⟨m0, m1, m2, m3, m4, m5⟩ := Y1.out
    obtain ⟨k0, k1, k2, k3, k4, k5⟩ := Y2.out
    go_wp2_with fail
    refine (H2.out _ B1.out).mono ?_
    rintro r w2 ⟨z, rfl, hiff, hb2⟩
    have HX := hide (show z = true ↔ SameX l W F D P n l' W' F' D' P' n' from ⟨fun e => ⟨HLe.out, hiff.1 e⟩, fun e => hiff.2 e.2⟩)
    have B2 := hide (below_next B1.out hb2)
    clear hiff hb2 m0 m1 m2 m3 m4 m5 k0 k1 k2 k3 k4 k5
    go_wp2_with fail
    go_ret
    exact ⟨_, rfl, HX.out, B2.out⟩
end Go.Proofs.Ytfamojijgjmcmaa

