/-
  The law FnExactParseLayer, walked.
-/
import Derived.Test.YtcknabinmbknaaaGreatDoorJ2
import Derived.Test.YtcknabinmbknaaaGreatDoorParR
import Derived.Test.YtcknabinmbknaaaGreatDoorParJ
import Derived.ProofKit
namespace Go.Proofs.YtcknabinmbknaaaGreatDoor
open Go.ChangeShapes Go.WideShapes Go.ChangeAt Go.RowKit
set_option linter.unusedVariables false

set_option maxHeartbeats 8000000 in
theorem parseLayer_core (w : World) (a0 : Option Addr) (cap0 : Nat) (zs0 : List Int) (r0 : Reads .u8 w a0 zs0) (hl0 : zs0.length ≤ 1048576) (q : Int) (es : List En) (hr : es.length ≤ 1048576) (hrC : ∀ e ∈ es, e.chunks.length ≤ 1048576) (hbk : bulkE es ≤ 8388608)
    (hs : (∀ (x0 : Nat) (k0 : Nat) (u : World), Reads .u8 u (some ⟨x0, 0, none⟩) zs0 → zs0.length ≤ k0 → Calls Tryz.prog 10 #[.slice (some ⟨x0, 0, none⟩) zs0.length k0] u fun e w' => ∃ a' c', e = .returned (.agg #[.int .i64 q, .slice a' es.length c']) ∧ GE u.heap.size w'.heap.size w' (.slice a' es.length c') es ∧ Below u.heap.size u w'))
    (hi : (∀ (x0 : Nat) (k0 : Nat) (u : World), Below w.heap.size w u → Reads .u8 u (some ⟨x0, 0, none⟩) zs0 → zs0.length ≤ k0 → Calls Tryz.prog 8 #[.slice (some ⟨x0, 0, none⟩) zs0.length k0] u fun e w' => ∃ a' c', e = .returned (.agg #[.int .i64 q, .slice a' es.length c']) ∧ GE u.heap.size w'.heap.size w' (.slice a' es.length c') es ∧ Below u.heap.size u w')) :
    Calls Tryz.prog 5 #[.slice a0 zs0.length cap0] w fun e w' => e = .returned (.bool true) ∧ Below w.heap.size w w' := by
  have hb0 : ¬ (1048576 : Int) < (zs0.length : Int) := by omega
  have R0 := hide r0
  clear r0
  have HS := hide hs
  have HI := hide hi
  clear hs hi
  have HRC := hide hrC
  clear hrC
  go_enter Tryz.func5, Tryz.ntmps5
  go_wp2_with fail
  refine (toByteS_at a0 cap0 zs0 _ (R0.out.below (Below.refl _ _)) hl0).mono ?_
  rintro e w1 ⟨g1, rfl, hgl1, hgu1, o1, b1⟩
  have n_1 : w.heap.size ≤ w1.heap.size := b1.size
  have B_1 := hide (below_next (Below.refl _ _) b1)
  have hgl1 : w.heap.size ≤ g1 := by simpa using hgl1
  have Y0_1 := hide o1
  clear o1
  clear b1
  go_wp2_with fail
  refine (HS.out _ _ _ (Y0_1.out.reads) (Nat.le_refl _)).mono ?_
  rintro e w2 ⟨ra2, rc2, rfl, rg2, b2⟩
  have n_2 : w1.heap.size ≤ w2.heap.size := b2.size
  have Y0_2 := hide (Y0_1.out.below b2)
  have B_2 := hide (below_next B_1.out b2)
  have Dd_2 := hide rg2
  clear rg2
  clear b2 Y0_1 B_1
  clear Y0_2
  go_wp2_with fail
  refine (toByteS_at a0 cap0 zs0 _ (R0.out.below (below_next B_2.out (below_alloc _ _))) hl0).mono ?_
  rintro e w3 ⟨g3, rfl, hgl3, hgu3, o3, b3⟩
  have n_3 : w2.heap.size < w3.heap.size := by have := b3.size; simp at this; omega
  have Dd_3 := hide ((Dd_2.out.below (below_alloc _ _)).below b3)
  have T_3 := hide ((Two.new w2 (.int .i64 q) (.slice ra2 es.length rc2) 27).below b3)
  have B_3 := hide (below_next (below_next B_2.out (below_alloc _ _)) b3)
  have hgl3 : w2.heap.size + 1 ≤ g3 := by simpa using hgl3
  have X0_3 := hide o3
  clear o3
  clear b3 Dd_2 B_2
  go_wp2_with fail
  refine (HI.out _ _ _ B_3.out (X0_3.out.reads) (Nat.le_refl _)).mono ?_
  rintro e w4 ⟨ra4, rc4, rfl, rg4, b4⟩
  have n_4 : w3.heap.size ≤ w4.heap.size := b4.size
  have Dd_4 := hide (Dd_3.out.below b4)
  have T_4 := hide (T_3.out.below b4)
  have X0_4 := hide (X0_3.out.below b4)
  have B_4 := hide (below_next B_3.out b4)
  have Gg_4 := hide rg4
  clear rg4
  clear b4 Dd_3 T_3 X0_3 B_3
  have ns4 : w2.heap.size < w4.heap.size := by omega
  obtain ⟨Tt0, Tt1⟩ := T_4.out
  go_wp2_with fail
  clear Tt0 Tt1
  refine (eqLayerResult_same q ra4 ra2 rc4 rc2 es.length es _ ((Gg_4.out.below (below_alloc _ _))).rd ((Dd_4.out.below (below_alloc _ _))).rd rfl hr HRC.out).mono ?_
  rintro e w5 ⟨rfl, b5⟩
  have n_5 : w4.heap.size < w5.heap.size := by have := b5.size; simp at this; omega
  have Dd_5 := hide ((Dd_4.out.below (below_alloc _ _)).below b5)
  have T_5 := hide ((T_4.out.below (below_alloc _ _)).below b5)
  have X0_5 := hide ((X0_4.out.below (below_alloc _ _)).below b5)
  have Gg_5 := hide ((Gg_4.out.below (below_alloc _ _)).below b5)
  have U_5 := hide ((Two.new w4 (.int .i64 q) (.slice ra4 es.length rc4) 27).below b5)
  have B_5 := hide (below_next (below_next B_4.out (below_alloc _ _)) b5)
  clear b5 Dd_4 T_4 X0_4 Gg_4 B_4
  go_wp2_with fail
  refine (toByteS_at a0 cap0 zs0 _ (R0.out.below B_5.out) hl0).mono ?_
  rintro e w6 ⟨g6, rfl, hgl6, hgu6, o6, b6⟩
  have n_6 : w5.heap.size ≤ w6.heap.size := b6.size
  have Dd_6 := hide (Dd_5.out.below b6)
  have T_6 := hide (T_5.out.below b6)
  have X0_6 := hide (X0_5.out.below b6)
  have Gg_6 := hide (Gg_5.out.below b6)
  have U_6 := hide (U_5.out.below b6)
  have B_6 := hide (below_next B_5.out b6)
  have hgl6 : w5.heap.size ≤ g6 := by simpa using hgl6
  have V_6 := hide o6
  clear o6
  clear b6 Dd_5 T_5 X0_5 Gg_5 U_5 B_5
  go_wp2_with fail
  refine (eqByteS_b _ _ _ _ zs0 _ (X0_6.out).reads (V_6.out).reads hl0).mono ?_
  rintro e w7 ⟨rfl, b7⟩
  have n_7 : w6.heap.size ≤ w7.heap.size := b7.size
  have Dd_7 := hide (Dd_6.out.below b7)
  have T_7 := hide (T_6.out.below b7)
  have X0_7 := hide (X0_6.out.below b7)
  have Gg_7 := hide (Gg_6.out.below b7)
  have U_7 := hide (U_6.out.below b7)
  have V_7 := hide (V_6.out.below b7)
  have B_7 := hide (below_next B_6.out b7)
  clear b7 Dd_6 T_6 X0_6 Gg_6 U_6 V_6 B_6
  clear V_7
  go_wp2_with fail
  refine (markByteS_any _ _ zs0 ((1 : Int)) _ X0_7.out (by omega) (by omega) (by omega)).mono ?_
  rintro e w8 ⟨rfl, -, kk8, -⟩
  have hS8 : ∀ b, blkOf (some ⟨g3, 0, none⟩) b → b = g3 := fun b hb => by simpa [blkOf, eq_comm] using hb
  have n_8 : w7.heap.size ≤ w8.heap.size := kk8.size
  have Dd_8 := hide (Dd_7.out.kept kk8 (fun b h1 h2 hS => by have := hS8 _ hS; omega))
  have T_8 := hide (T_7.out.kept kk8 (fun hS => by have := hS8 _ hS; omega))
  have Gg_8 := hide (Gg_7.out.kept kk8 (fun b h1 h2 hS => by have := hS8 _ hS; omega))
  have U_8 := hide (U_7.out.kept kk8 (fun hS => by have := hS8 _ hS; omega))
  have B_8 := hide (B_7.out.trans (kk8.below B_7.out.size (fun k hk hS => by have := hS8 _ hS; omega)))
  clear kk8 Dd_7 T_7 Gg_7 U_7 X0_7 B_7
  have hkk : ¬ ((1 : Int) + (zs0.length : Int)) < 0 := by omega
  obtain ⟨Tt0, Tt1⟩ := T_8.out
  obtain ⟨Ut0, Ut1⟩ := U_8.out
  go_wp2_with fail
  clear Tt0 Tt1 Ut0 Ut1
  refine (eqLayerResult_same q ra4 ra2 rc4 rc2 es.length es _ (Gg_8.out).rd (Dd_8.out).rd rfl hr HRC.out).mono ?_
  rintro e w9 ⟨rfl, b9⟩
  have n_9 : w8.heap.size ≤ w9.heap.size := b9.size
  have Dd_9 := hide (Dd_8.out.below b9)
  have T_9 := hide (T_8.out.below b9)
  have Gg_9 := hide (Gg_8.out.below b9)
  have U_9 := hide (U_8.out.below b9)
  have B_9 := hide (below_next B_8.out b9)
  clear b9 Dd_8 T_8 Gg_8 U_8 B_8
  obtain ⟨Ut0, Ut1⟩ := U_9.out
  go_wp2_with fail
  clear Ut0 Ut1
  have hTT : w4.heap.size ≤ w9.heap.size := by omega
  refine (markLayerResult_any q _ _ ra4 rc4 es.length es _ Gg_9.out rfl hr hbk hTT).mono ?_
  rintro e w10 ⟨rfl, gm10, kk10⟩
  have n_10 : w9.heap.size ≤ w10.heap.size := kk10.size
  have Dd_10 := hide (Dd_9.out.kept kk10 (fun b h1 h2 hS => by omega))
  have T_10 := hide (T_9.out.kept kk10 (fun hS => by omega))
  have Gg_10 := hide (gm10)
  have U_10 := hide (U_9.out.kept kk10 (fun hS => by omega))
  have B_10 := hide (B_9.out.trans (kk10.below B_9.out.size (fun k hk hS => by omega)))
  clear kk10 Dd_9 T_9 Gg_9 U_9 B_9
  have hmv : ¬ ((1 : Int) + (bulkE es : Int)) < 0 := by omega
  obtain ⟨Ut0, Ut1⟩ := U_10.out
  go_wp2_with fail
  clear Ut0 Ut1
  refine (heldLayerResult_any q ra4 rc4 es.length es _ Gg_10.out.rd rfl hr hbk).mono ?_
  rintro e w11 ⟨rfl, b11⟩
  have n_11 : w10.heap.size ≤ w11.heap.size := b11.size
  have Dd_11 := hide (Dd_10.out.below b11)
  have T_11 := hide (T_10.out.below b11)
  have Gg_11 := hide (Gg_10.out.below b11)
  have U_11 := hide (U_10.out.below b11)
  have B_11 := hide (below_next B_10.out b11)
  clear b11 Dd_10 T_10 Gg_10 U_10 B_10
  go_wp2_with fail
  refine (toByteS_at a0 cap0 zs0 _ (R0.out.below B_11.out) hl0).mono ?_
  rintro e w12 ⟨g12, rfl, hgl12, hgu12, o12, b12⟩
  have n_12 : w11.heap.size ≤ w12.heap.size := b12.size
  have Dd_12 := hide (Dd_11.out.below b12)
  have T_12 := hide (T_11.out.below b12)
  have Gg_12 := hide (Gg_11.out.below b12)
  have U_12 := hide (U_11.out.below b12)
  have B_12 := hide (below_next B_11.out b12)
  have hgl12 : w11.heap.size ≤ g12 := by simpa using hgl12
  have Z0_12 := hide o12
  clear o12
  clear b12 Dd_11 T_11 Gg_11 U_11 B_11
  go_wp2_with fail
  refine (HI.out _ _ _ B_12.out (Z0_12.out.reads) (Nat.le_refl _)).mono ?_
  rintro e w13 ⟨ra13, rc13, rfl, rg13, b13⟩
  have n_13 : w12.heap.size ≤ w13.heap.size := b13.size
  have Dd_13 := hide (Dd_12.out.below b13)
  have T_13 := hide (T_12.out.below b13)
  have Gg_13 := hide (Gg_12.out.below b13)
  have U_13 := hide (U_12.out.below b13)
  have Z0_13 := hide (Z0_12.out.below b13)
  have B_13 := hide (below_next B_12.out b13)
  have Hh_13 := hide rg13
  clear rg13
  clear b13 Dd_12 T_12 Gg_12 U_12 Z0_12 B_12
  clear Z0_13
  have nt13 : w2.heap.size < w13.heap.size := by omega
  have nu13 : w4.heap.size < w13.heap.size := by omega
  obtain ⟨Tt0, Tt1⟩ := T_13.out
  go_wp2_with fail
  clear Tt0 Tt1
  refine (eqLayerResult_same q ra13 ra2 rc13 rc2 es.length es _ ((Hh_13.out.below (below_alloc _ _))).rd ((Dd_13.out.below (below_alloc _ _))).rd rfl hr HRC.out).mono ?_
  rintro e w14 ⟨rfl, b14⟩
  have n_14 : w13.heap.size < w14.heap.size := by have := b14.size; simp at this; omega
  have Dd_14 := hide ((Dd_13.out.below (below_alloc _ _)).below b14)
  have T_14 := hide ((T_13.out.below (below_alloc _ _)).below b14)
  have Gg_14 := hide ((Gg_13.out.below (below_alloc _ _)).below b14)
  have U_14 := hide ((U_13.out.below (below_alloc _ _)).below b14)
  have Hh_14 := hide ((Hh_13.out.below (below_alloc _ _)).below b14)
  have Q_14 := hide ((Two.new w13 (.int .i64 q) (.slice ra13 es.length rc13) 27).below b14)
  have B_14 := hide (below_next (below_next B_13.out (below_alloc _ _)) b14)
  clear b14 Dd_13 T_13 Gg_13 U_13 Hh_13 B_13
  obtain ⟨Ut0, Ut1⟩ := U_14.out
  go_wp2_with fail
  clear Ut0 Ut1
  refine (heldLayerResult_any q ra4 rc4 es.length es _ Gg_14.out.rd rfl hr hbk).mono ?_
  rintro e w15 ⟨rfl, b15⟩
  have n_15 : w14.heap.size ≤ w15.heap.size := b15.size
  have Dd_15 := hide (Dd_14.out.below b15)
  have T_15 := hide (T_14.out.below b15)
  have Gg_15 := hide (Gg_14.out.below b15)
  have U_15 := hide (U_14.out.below b15)
  have Hh_15 := hide (Hh_14.out.below b15)
  have Q_15 := hide (Q_14.out.below b15)
  have B_15 := hide (below_next B_14.out b15)
  clear b15 Dd_14 T_14 Gg_14 U_14 Hh_14 Q_14 B_14
  go_wp2_with fail
  go_ret
  exact ⟨rfl, B_15.out⟩

theorem rdB_of {u : World} {g : Nat} {zs : List Int} (h : Reads .u8 u (some ⟨g, 0, none⟩) zs) : RdB u (some ⟨g, 0, none⟩) zs := by
  by_cases hz : zs = []
  · subst hz
    exact Or.inr ⟨g, 0, rfl, fun h => absurd rfl h, fun i hi => by simp at hi⟩
  · obtain ⟨b, off, h1, h2, h3⟩ := h hz
    exact Or.inr ⟨b, off, h1, fun _ => h2, h3⟩
theorem bulk_few : ∀ {es : List En}, (∀ e ∈ es, e.chunks.length ≤ 3) → bulkE es ≤ es.length * 6
  | [], _ => by simp [bulkE]
  | e :: es, h => by
    have h1 := h e (by simp)
    have h2 := bulk_few (es := es) (fun x hx => h x (by simp [hx]))
    simp only [bulkE, List.length_cons]
    omega
theorem lay_small (t : Bs) : (layList t).length ≤ 12 ∧ (∀ e ∈ layList t, e.chunks.length ≤ 3) ∧ bulkE (layList t) ≤ 72 := by
  have key : ∀ es : List En, Right es → es.length ≤ 12 ∧ (∀ e ∈ es, e.chunks.length ≤ 3) ∧ bulkE es ≤ 72 := fun es hR => by
    have h3 : ∀ e ∈ es, e.chunks.length ≤ 3 := fun e he => (right_fits hR e he).three
    have h4 := bulk_few h3
    have h5 := hR.len
    exact ⟨h5, h3, by omega⟩
  by_cases hl : 600 < t.length
  · rw [(lay_many hl).2]; exact key [] right_nil
  · cases hp : parL t with
    | none => rw [(lay_no hl hp).2]; exact key [] right_nil
    | some es => rw [(lay_so hl hp).2]; exact key es (parL_iff.1 hp).1
theorem parseLayer_walk (a : Option Addr) (cap : Nat) (zs : List Int) (u : TypeId) (vp : Value) (w : World) (h : Reads .u8 w a zs) (hmax : zs.length ≤ 9223372036854775807) (hg : Gl w u vp) :
    Calls Tryz.prog 5 #[.slice a zs.length cap] w fun e w' => e = .returned (.bool true) ∧ Below w.heap.size w w' := by
  by_cases hbig : 1048576 < zs.length
  · have hb : (1048576 : Int) < (zs.length : Int) := by omega
    clear h
    go_enter Tryz.func5, Tryz.ntmps5
    go_wp2_with fail
    go_ret
    exact ⟨rfl, Below.refl _ _⟩
  · have hl : zs.length ≤ 1048576 := by omega
    obtain ⟨f1, f2, f3⟩ := lay_small (textB zs)
    exact parseLayer_core w a cap zs h hl (layCode (textB zs)) (layList (textB zs)) (by omega) (fun e he => by have := f2 e he; omega) (by omega)
      (fun x k v hr _ => specParseLayer_any _ k zs v hmax (rdB_of hr)) (fun x k v hb hr _ => implParseLayer_any _ k zs u vp v hmax (rdB_of hr) (hg.below hb))
end Go.Proofs.YtcknabinmbknaaaGreatDoor
