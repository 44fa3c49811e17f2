/-
  The program's HidesBelow.
-/
import Derived.Test.YtmpojjlpopimfaaGreatSeeB
import Derived.Test.YtmpojjlpopimfaaGreatSeeC
namespace Go.Proofs.YtmpojjlpopimfaaGreat
open Go.RowKit Go.Maps
set_option linter.unusedVariables false
attribute [local go_sem ↓] Go.wp_at_zero Go.wp_at_succ

theorem seeL_one (es : List En) (p : Bs) : seeL [es] 0 p = findE es p := by simp [seeL]
set_option maxRecDepth 100000 in
set_option maxHeartbeats 3200000 in
theorem implHidesBelow_any (a : Option Addr) (c n : Nat) (es : List En) (p : Bs) (w : World) (h : RdE w a es) (hn : n = es.length) (hl : es.length ≤ 1048576) (hs : SmallE es) (hp : p.length ≤ 1048576) :
    Calls Tryz.prog 9 #[.slice a n c, .string (str p)] w fun r w' => r = .returned (.bool (hidB es p)) ∧ Below w.heap.size w w' := by
  subst hn
  have HAs := hide (implAsk_any a c es.length es p w h rfl hl hs hp)
  have HR := hide h
  have HS := hide hs
  clear h hs
  by_cases hz : askP es p = 0
  · obtain ⟨hRi, hpf⟩ := askP_right hz
    have HZ := hide (hidB_good hz)
    have HRi := hide hRi
    have hlen := hRi.len
    rw [hz] at HAs
    clear hz hRi hpf
    go_enter Tryz.func9, Tryz.ntmps9
    go_wp2_with fail
    refine HAs.out.mono ?_
    rintro r w1 ⟨rfl, hb1⟩
    have B1 := hide hb1
    have HL := hide (RdL.one (c := c) (HR.out.below hb1) 24)
    have HSi := hide (sightOf_any (some ⟨w1.heap.size, 0, none⟩) 1 1 [es] _ HL.out rfl (by simp) (fun x hx => by simp at hx; subst hx; exact ⟨HRi.out.rise, hlen, HS.out⟩))
    have BA := hide (below_alloc w1 (.cells #[.slice a es.length c] 24))
    clear hb1
    go_wp2_with fail
    refine HSi.out.mono ?_
    rintro r w2 ⟨b, N, rfl, hbb, hN, hM, hb2⟩
    have HM := hide hM
    have B2 := hide (below_next (below_next B1.out BA.out) hb2)
    have HH : Hid (Calls Tryz.prog 39 #[.map (some b), .int .i64 0, .string (str p)] w2 fun r w' => r = .returned (.bool (hideAt es p)) ∧ Below w2.heap.size w2 w') := hide (by
      have h1 := hides_any b N 0 p _ _ w2 hM (by omega) hp
      rw [seeL_one] at h1
      exact h1)
    have HU : Hid (∀ w3, Below w2.heap.size w2 w3 → Calls Tryz.prog 40 #[.map (some b), .int .i64 0, .string (str p)] w3 fun r w' => r = .returned (.bool (hideUp es p)) ∧ Below w3.heap.size w3 w') := hide (fun w3 hb => by
      have h1 := hidesAbove_any b N 0 p _ _ w3 (hM.below hb) (by omega) hp
      simp only [seeL_one] at h1
      exact h1)
    clear hM hb2 HSi HL
    go_wp2_with fail
    refine HH.out.mono ?_
    rintro r w3 ⟨rfl, hb3⟩
    have B3 := hide (below_next B2.out hb3)
    have HU3 := hide (HU.out w3 hb3)
    clear hb3 HU
    unfold hidesE at HZ
    cases hv : hideAt es p
    · rw [hv, Bool.false_or] at HZ
      clear hv
      go_wp2_with fail
      refine HU3.out.mono ?_
      rintro r w4 ⟨rfl, hb4⟩
      have B4 := hide (below_next B3.out hb4)
      clear hb4
      go_wp2_with fail
      go_ret
      exact ⟨ret_bool HZ.out.symm, B4.out⟩
    · rw [hv, Bool.true_or] at HZ
      clear hv
      go_wp2_with fail
      go_ret
      exact ⟨ret_bool HZ.out.symm, B3.out⟩
  · have HZ := hide (hidB_bad hz)
    have hz2 : (askP es p != 0) = true := by simpa using hz
    generalize askP es p = F at *
    clear hz
    go_enter Tryz.func9, Tryz.ntmps9
    go_wp2_with fail
    refine HAs.out.mono ?_
    rintro r w1 ⟨rfl, hb1⟩
    have B1 := hide hb1
    clear hb1
    go_wp2_with fail
    go_ret
    exact ⟨ret_bool HZ.out.symm, B1.out⟩
end Go.Proofs.YtmpojjlpopimfaaGreat
