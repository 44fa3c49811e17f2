/-
  Lists at which the program's faults and the model's are the same: right ones, and right ones with one entry that may be wrong at either end.
-/
import Derived.Test.YtlbccbikepkfiaaGreatDoorLayR
namespace Go.Proofs.YtlbccbikepkfiaaGreatDoor
set_option linter.unusedVariables false

/-- The program tells the fault that the model tells. -/
def Good (es : List En) : Prop := layFaultP es = layFault es
theorem good_right {es : List En} (h : Right es) : Good es := by rw [Good, right_P.2 h, right_E.2 h]
theorem good_many {es : List En} (h : 12 < es.length) : Good es := by rw [Good, layFaultP_many h, layFault_many h]
theorem good_of {es : List En} (h : ¬ 12 < es.length) (hh : layFromH (homeP es) none es = layFromH (homeE es) none es) : Good es := by
  rw [Good, layFaultP, layFault, if_neg h, if_neg h, layFrom_H, hh]
theorem parent_ne {p : Bs} (h : faultP p = 0) (h0 : parentP p ≠ []) : parentP p ≠ p := by
  have := below_len (parent_above h h0).2
  intro e
  rw [e] at this
  omega
theorem good_snoc {es : List En} {e : En} (h : Right es) : Good (es ++ [e]) := by
  by_cases hl : 12 < (es ++ [e]).length
  · exact good_many hl
  · refine good_of hl (layFromH_congr (fun x hx hxe => ?_))
    rcases List.mem_append.1 hx with hx | hx
    · have h1 := h.home x hx
      have h2 : homeP (es ++ [e]) x.path = true := by
        rw [homeP_iff] at h1 ⊢
        rcases h1 with h1 | ⟨d, hd, h1⟩
        · exact .inl h1
        · exact .inr ⟨d, List.mem_append_left _ hd, h1⟩
      rw [h2]
      symm
      rw [homeP_eq h.rise] at h1
      unfold homeE at h1 ⊢
      by_cases h0 : parentP x.path = []
      · simp [h0]
      · rw [if_neg h0] at h1 ⊢
        cases hf : findE es (parentP x.path) with
        | none => rw [hf] at h1; simp at h1
        | some d =>
          rw [hf] at h1
          have : findE (es ++ [e]) (parentP x.path) = some d := by
            rw [findE, List.find?_append]
            have hf' : List.find? (fun y : En => decide (y.path = parentP x.path)) es = some d := hf
            rw [hf']
            rfl
          rw [this]
          exact h1
    · simp only [List.mem_singleton] at hx
      subst hx
      by_cases h0 : parentP x.path = []
      · simp [homeP, homeE, h0]
      · have hne := parent_ne (entFault_zero hxe) h0
        have e1 : homeP (es ++ [x]) x.path = homeP es x.path := by
          simp [homeP, h0, hasDir, hne.symm]
        have e2 : homeE (es ++ [x]) x.path = homeE es x.path := by
          have : findE (es ++ [x]) (parentP x.path) = findE es (parentP x.path) := by
            simp [findE, List.find?_append, hne.symm]
          simp only [homeE, this]
        rw [e1, e2, homeP_eq h.rise]
theorem good_set {r0 e : En} {tl : List En} (h : Right (r0 :: tl)) : Good (e :: tl) := by
  by_cases hl : 12 < (e :: tl).length
  · exact good_many hl
  · have hrt : Rise tl := (List.pairwise_cons.1 h.rise).2
    by_cases hr : Rise (e :: tl)
    · exact good_of hl (layFromH_congr (fun x hx _ => homeP_eq hr x.path))
    · refine good_of hl ?_
      have hb : entBadH (homeP (e :: tl)) none e = entBadH (homeE (e :: tl)) none e := by
        unfold entBadH
        by_cases he : entFault e = 0
        · have : homeP (e :: tl) e.path = homeE (e :: tl) e.path := by
            by_cases h0 : parentP e.path = []
            · simp [homeP, homeE, h0]
            · have hne := parent_ne (entFault_zero he) h0
              have e1 : homeP (e :: tl) e.path = homeP tl e.path := by simp [homeP, h0, hasDir, hne.symm]
              have e2 : homeE (e :: tl) e.path = homeE tl e.path := by
                have : findE (e :: tl) (parentP e.path) = findE tl (parentP e.path) := by simp [findE, hne.symm]
                simp only [homeE, this]
              rw [e1, e2, homeP_eq hrt]
          rw [this]
        · simp [he]
      simp only [layFromH]
      rw [hb]
      by_cases hz : entBadH (homeE (e :: tl)) none e = 0
      · rw [if_pos hz, if_pos hz]
        cases tl with
        | nil => rfl
        | cons t1 r =>
          have ht : entFault t1 = 0 := h.ent t1 (by simp)
          have hlow : lowE (some e) t1 = true := by
            cases hlo : lowE (some e) t1
            · exfalso
              refine hr (List.pairwise_cons.2 ⟨fun y hy => ?_, hrt⟩)
              have h1 := lowE_some hlo
              rcases List.mem_cons.1 hy with rfl | hy
              · exact h1
              · exact bl_trans _ _ _ h1 ((List.pairwise_cons.1 hrt).1 y hy)
            · rfl
          simp only [layFromH]
          have b1 : ∀ H : Bs → Bool, entBadH H (some e) t1 = 1 := fun H => by simp [entBadH, ht, hlow]
          rw [b1, b1]
          rfl
      · rw [if_neg hz, if_neg hz]
theorem good_put {es : List En} {e : En} (h : Good es) : putCodeP es e = putCode es e := by
  unfold putCodeP putCode
  rw [h]
  by_cases h0 : layFault es = 0
  · rw [if_pos h0, if_pos h0, homeP_eq (right_E.1 h0).rise]
  · rw [if_neg h0, if_neg h0]

end Go.Proofs.YtlbccbikepkfiaaGreatDoor
