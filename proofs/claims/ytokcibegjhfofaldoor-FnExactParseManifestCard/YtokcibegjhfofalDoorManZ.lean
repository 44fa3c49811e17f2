/-
  The law FnExactParseManifest, walked: it returns true at every text, where errUnread holds an error.
-/
import Derived.Test.YtokcibegjhfofalDoorManY
namespace Go.Proofs.YtokcibegjhfofalDoor
open Go.RowKit
set_option linter.unusedVariables false
set_option maxRecDepth 100000

set_option maxHeartbeats 6400000 in
theorem parseManifest_walk (t : Bs) (u : TypeId) (vp : Value) (w : World) (hmax : t.length ≤ 9223372036854775807) (hg : w.cell? ⟨0, 0, none⟩ = some (.iface u vp)) :
    Calls Tryd.prog 3 #[.string (str t)] w fun e w' => e = .returned (.bool true) ∧ Below w.heap.size w w' := by
  have HG : Hid (∀ w' : World, Below w.heap.size w w' → w'.cell? ⟨0, 0, none⟩ = some (.iface u vp)) := hide (fun w' hb => (hb.cell (p := ⟨0, 0, none⟩) (World.block_lt_of_cell? w ⟨0, 0, none⟩ hg)).trans hg)
  clear hg
  have hsz := str_size t
  by_cases hbig : 1048576 < t.length
  · have hb : (1048576 : Int) < ((str t).size : Int) := by omega
    clear hsz
    go_enter Tryd.func3, Tryd.ntmps3
    go_wp2_with fail
    go_ret
    exact ⟨rfl, Below.refl _ _⟩
  · have hb : ¬ (1048576 : Int) < ((str t).size : Int) := by omega
    have hl : t.length ≤ 1048576 := by omega
    have HS := hide (fun v => (specParseManifest_any t v hl).mono (fun _ _ h => h.all))
    have HI := hide (fun v hv => (implParseManifest_any t u vp v hl hv).mono (fun _ _ h => h.all))
    have hn3 := listM_len hl
    have hn : (listM (parseM t)).length ≤ 1048576 := by omega
    generalize codeM (parseM t) = q at *
    generalize nameM (parseM t) = nm at *
    generalize listM (parseM t) = ds at *
    generalize str t = S at *
    clear hsz hl hbig hmax
    go_enter Tryd.func3, Tryd.ntmps3
    go_wp2_with fail
    refine (HS.out _).mono ?_
    rintro e w1 ⟨a1, c1, rfl, o1, b1⟩
    have A1 := hide (below_next b1 (below_alloc w1 (.cells #[.int .i64 q, .string nm, .slice a1 ds.length c1] 26)))
    have T1 := hide (Three.new w1 (.int .i64 q) (.string nm) (.slice a1 ds.length c1) 26)
    have D1 := hide ((G1.mk o1 rfl).below (below_alloc w1 (.cells #[.int .i64 q, .string nm, .slice a1 ds.length c1] 26)))
    have B1 := hide A1.out
    have nW := B1.out.size
    have n1 : w1.heap.size < (w1.alloc (.cells #[.int .i64 q, .string nm, .slice a1 ds.length c1] 26)).heap.size := by simp
    clear b1 o1 A1
    go_wp2_with fail
    generalize w1.alloc (.cells #[.int .i64 q, .string nm, .slice a1 ds.length c1] 26) = W1 at *
    generalize w1.heap.size = p1 at *
    refine (HI.out _ (HG.out _ B1.out)).mono ?_
    rintro e w2 ⟨a2, c2, rfl, o2, b2⟩
    have A2 := hide (below_next b2 (below_alloc w2 (.cells #[.int .i64 q, .string nm, .slice a2 ds.length c2] 26)))
    have U2 := hide (Three.new w2 (.int .i64 q) (.string nm) (.slice a2 ds.length c2) 26)
    have G2 := hide ((G1.mk o2 rfl).below (below_alloc w2 (.cells #[.int .i64 q, .string nm, .slice a2 ds.length c2] 26)))
    have T2 := hide (T1.out.below A2.out)
    have D2 := hide (D1.out.below A2.out)
    have B2 := hide (below_next B1.out A2.out)
    have n2 : w2.heap.size < (w2.alloc (.cells #[.int .i64 q, .string nm, .slice a2 ds.length c2] 26)).heap.size := by simp
    have n12 := b2.size
    clear b2 o2 A2 T1 D1 B1
    obtain ⟨⟨t0, t1, t2⟩, t3, t4, t5⟩ := T2.out
    go_wp2_with fail
    generalize w2.alloc (.cells #[.int .i64 q, .string nm, .slice a2 ds.length c2] 26) = W2 at *
    generalize w2.heap.size = p2 at *
    obtain ⟨⟨u0, u1, u2⟩, u3, u4, u5⟩ := U2.out
    go_wp2_with fail
    refine (eqManRes_same q nm a2 a1 c2 c1 ds _ G2.out.own.reads D2.out.own.reads hn).mono ?_
    rintro e w3 ⟨rfl, b3⟩
    have T3 := hide (T2.out.below b3)
    have D3 := hide (D2.out.below b3)
    have U3 := hide (U2.out.below b3)
    have G3 := hide (G2.out.below b3)
    have B3 := hide (below_next B2.out b3)
    have n23 := b3.size
    clear b3 T2 D2 U2 G2 B2 t0 t1 t2 t3 t4 t5 u0 u1 u2 u3 u4 u5
    obtain ⟨⟨u0, u1, u2⟩, u3, u4, u5⟩ := U3.out
    go_wp2_with fail
    refine (markManRes_any q nm _ _ a2 c2 ds 1 _ G3.out (by decide) (by decide) hn).mono ?_
    rintro e w4 ⟨rfl, g4, k4⟩
    have G4 := hide g4
    have U4 := hide (U3.out.kept k4 (fun hS => by omega))
    have T4 := hide (T3.out.kept k4 (fun hS => by omega))
    have D4 := hide (D3.out.kept k4 (fun b h1 h2 hS => by omega))
    have B4 := hide (B3.out.trans (k4.below (B := w.heap.size) B3.out.size (fun b hb hS => by have := B3.out.size; omega)))
    have n34 := k4.size
    clear g4 k4 U3 G3 T3 D3 B3 u0 u1 u2 u3 u4 u5
    have hk4 : ¬ (1 + (ds.length : Int)) < 0 := by omega
    have hne : (1 + (ds.length : Int) != 1 + (ds.length : Int)) = false := by simp
    have R4 := hide (show Reads .i64 w4 a2 (marks64 1 ds.length) from ownIntsR (n := (marks64 1 ds.length).length) (c := c2) (by have h := G4.out.1; rw [marks64_length] at h ⊢; exact h) rfl)
    obtain ⟨⟨u0, u1, u2⟩, u3, u4, u5⟩ := U4.out
    go_wp2_with fail
    refine (heldManRes_any q nm a2 c2 ds.length 1 _ R4.out (by decide) (by decide) hn).mono ?_
    rintro e w5 ⟨rfl, b5⟩
    have U5 := hide (U4.out.below b5)
    have R5 := hide (R4.out.below b5)
    have T5 := hide (T4.out.below b5)
    have D5 := hide (D4.out.below b5)
    have B5 := hide (below_next B4.out b5)
    clear b5 U4 R4 T4 D4 B4 G4 u0 u1 u2 u3 u4 u5
    go_wp2_with fail
    refine (HI.out _ (HG.out _ B5.out)).mono ?_
    rintro e w6 ⟨a6, c6, rfl, o6, b6⟩
    have A6 := hide (below_next b6 (below_alloc w6 (.cells #[.int .i64 q, .string nm, .slice a6 ds.length c6] 26)))
    have V6 := hide (Three.new w6 (.int .i64 q) (.string nm) (.slice a6 ds.length c6) 26)
    have G6 := hide ((G1.mk o6 rfl).below (below_alloc w6 (.cells #[.int .i64 q, .string nm, .slice a6 ds.length c6] 26)))
    have U6 := hide (U5.out.below A6.out)
    have R6 := hide (R5.out.below A6.out)
    have T6 := hide (T5.out.below A6.out)
    have D6 := hide (D5.out.below A6.out)
    have B6 := hide (below_next B5.out A6.out)
    clear b6 o6 A6 U5 R5 T5 D5 B5
    obtain ⟨⟨t0, t1, t2⟩, t3, t4, t5⟩ := T6.out
    go_wp2_with fail
    generalize w6.alloc (.cells #[.int .i64 q, .string nm, .slice a6 ds.length c6] 26) = W6 at *
    generalize w6.heap.size = p6 at *
    obtain ⟨⟨v0, v1, v2⟩, v3, v4, v5⟩ := V6.out
    go_wp2_with fail
    refine (eqManRes_same q nm a6 a1 c6 c1 ds _ G6.out.own.reads D6.out.own.reads hn).mono ?_
    rintro e w7 ⟨rfl, b7⟩
    have U7 := hide (U6.out.below b7)
    have R7 := hide (R6.out.below b7)
    have B7 := hide (below_next B6.out b7)
    clear b7 U6 R6 B6 T6 D6 G6 V6 t0 t1 t2 t3 t4 t5 v0 v1 v2 v3 v4 v5
    obtain ⟨⟨u0, u1, u2⟩, u3, u4, u5⟩ := U7.out
    go_wp2_with fail
    refine (heldManRes_any q nm a2 c2 ds.length 1 _ R7.out (by decide) (by decide) hn).mono ?_
    rintro e w8 ⟨rfl, b8⟩
    have B8 := hide (below_next B7.out b8)
    clear b8
    go_wp2_with fail
    go_ret
    exact ⟨rfl, B8.out⟩
end Go.Proofs.YtokcibegjhfofalDoor
