/-
  Texts put together: MntP MntQ MntR MntS MntH DrawF MntU MntV.
-/
import Derived.Test.YtebgfaohhhgdpaaGreatKMounts23
import Derived.Test.YtebgfaohhhgdpaaGreatKMounts15
import Derived.Test.YtebgfaohhhgdpaaGreatKMounts13
import Derived.Test.YtebgfaohhhgdpaaGreatKMounts21
namespace Go.Proofs.YtebgfaohhhgdpaaGreat
set_option linter.unusedVariables false

theorem FillsO.one {O U : List En} {e : En} {r r2 : Int} {V V2 : List En} (h : FillsO O U e r V) (h2 : FillsO O U e r2 V2) : r = r2 ∧ V = V2 := by
  by_cases hl : 12 < (fillS U e).length
  · obtain ⟨a1, a2⟩ := h.1 hl; obtain ⟨b1, b2⟩ := h2.1 hl; exact ⟨a1.trans b1.symm, a2.trans b2.symm⟩
  · obtain ⟨a1, a2⟩ := h.2 hl; obtain ⟨b1, b2⟩ := h2.2 hl; exact ⟨a1.trans b1.symm, a2.trans b2.symm⟩
theorem fills_wrt {U : List En} (h : Right U) {e : En} (he : entFault e = 0) (hd : ∀ u ∈ above e.path, ∀ x, findE U u = some x → dirK x.kind = true) : FillsO U U e (wrtR U e) (wrtL U e) := by
  have h1 := filU_fill h he hd
  refine ⟨fun hl => ?_, fun hl => ?_⟩
  · rw [if_neg (by omega)] at h1
    exact ⟨by rw [wrtR, h1], by rw [wrtL, h1, if_neg (by decide)]⟩
  · rw [if_pos (by omega)] at h1
    exact ⟨by rw [wrtR, h1], by rw [wrtL, h1, if_pos rfl]⟩
theorem home_seen {T : List En} (h : FitT T) {p : Bs} {e : En} (hf : findE T p = some e) : homeC T p = 0 := by
  obtain ⟨hm, hp⟩ := find_mem hf
  rcases homeP_iff.1 (h.fit.home e hm) with h0 | ⟨d, hd, hdp, hdk⟩
  · rw [hp] at h0; exact homeC_top h0
  · rw [hp] at hdp
    have h1 := rise_find h.fit.rise hd
    rw [hdp] at h1
    by_cases h0 : parentP p = []
    · exact homeC_top h0
    · simp only [homeC, if_neg h0, h1]
      rw [if_neg (by rw [h.dir hd hdk]; decide)]
theorem findCode_iff {U : List En} {p : Bs} (h : Right U) (hp : faultP p = 0) : findCodeP U p = 0 ↔ findE U p ≠ none := by
  rw [findCodeP, if_pos (askP_of h hp)]
  cases findE U p <;> simp
theorem parts_of {ls : List (List En)} {U : List En} {p : Bs} (h : askL (ls ++ [U]) p = 0) : FitT (allE ls) ∧ Right U ∧ faultP p = 0 ∧ allE (ls ++ [U]) = mergeE (allE ls) U := by
  obtain ⟨h4, hR, hp⟩ := askL_right h
  exact ⟨all_fit (rights_fit fun es he => hR es (List.mem_append_left _ he)), hR U (by simp), hp, allE_snoc ls U⟩
end Go.Proofs.YtebgfaohhhgdpaaGreat

namespace Go.Proofs.YtebgfaohhhgdpaaGreat
set_option linter.unusedVariables false

theorem path_top {p : Bs} (hp : faultP p = 0) : p ≠ [47] := fun e => by rw [e] at hp; revert hp; decide
theorem lov_view {ls : List (List En)} {p : Bs} (hz : layersP ls = 0) (hp : faultP p = 0) : lovC ls p = (match findE (allE ls) p with | some e => if e.kind = 2 then 0 else 9 | none => 4) := by
  rw [lovC, if_neg (path_top hp), (look_all (askL_of hz hp)).1]
  cases findE (allE ls) p with
  | none => rfl
  | some e => simp
theorem wov_view {ls : List (List En)} {p : Bs} (hz : layersP ls = 0) (hp : faultP p = 0) : wovR ls p = wrS (allE ls) p := by
  rw [wovR, wrS, homR_view hz hp, lov_view hz hp]
  by_cases h : homeC (allE ls) p = 0
  · rw [if_pos h, if_pos h]
    cases findE (allE ls) p with
    | none => rfl
    | some e => by_cases hk : e.kind = 2 <;> simp [hk]
  · rw [if_neg h, if_neg h]
theorem mov_view {ls : List (List En)} {p : Bs} (hz : layersP ls = 0) (hp : faultP p = 0) : movR ls p = mkS (allE ls) p := by
  rw [movR, mkS, homR_view hz hp, (look_all (askL_of hz hp)).1]
  by_cases h : homeC (allE ls) p = 0
  · rw [if_pos h, if_pos h]
    cases findE (allE ls) p with
    | none => rfl
    | some e => simp
  · rw [if_neg h, if_neg h]
theorem rov_view {ls : List (List En)} {p : Bs} (hz : layersP ls = 0) (hp : faultP p = 0) : rovR ls p = rmS (allE ls) p := by
  rw [rovR, rmS, (look_all (askL_of hz hp)).1, lovL, lov_view hz hp]
  cases findE (allE ls) p with
  | none => rfl
  | some e =>
    have htq : topQ p = p := by rw [topQ, if_neg (path_top hp)]
    by_cases hk : e.kind = 2
    · simp [hk, htq]
    · simp [hk]
theorem view_put {t U : List En} (ht : FitT t) (hU : Right U) {e f : En} (he : entFault e = 0) (hh : homeC (mergeE t U) e.path = 0) (hl : (fillS U e).length ≤ 12) (hf : asT e = f) (h3 : e.kind ≠ 3) (hlow : ∀ q, belowB q e.path = true → findE (mergeE t (fillS U e)) q = none) (hlow2 : ∀ q, belowB q e.path = true → findE (mergeE t U) q = none) : mergeE t (fillS U e) = putE (mergeE t U) f := by
  have hp := entFault_zero he
  have hF := (right_fit.1 hU).1
  have hR := fill_right hU he (dirs_ok ht hF hp hh) hl
  have hfp : f.path = e.path := by rw [← hf, asT_path]
  refine rise_ext (merge_fit ht (right_fit.1 hR).1).fit.rise (rise_putE (merge_fit ht hF).fit.rise) (fun q => ?_)
  rw [find_putE, hfp]
  by_cases hq : q = e.path
  · rw [if_pos hq, hq, view_at ht hU he hh hl, if_neg h3, hf]
  · rw [if_neg hq]
    cases hb : belowB q e.path with
    | false => rw [if_pos (by simp), view_out ht hU he hh hl hq hb]
    | true =>
      rw [hlow q hb, hlow2 q hb]
      split <;> rfl
end Go.Proofs.YtebgfaohhhgdpaaGreat

namespace Go.Proofs.YtebgfaohhhgdpaaGreat
set_option linter.unusedVariables false

theorem bare_at {T : List En} (h : Fit T) {p q : Bs} (hp : faultP p = 0) (hf : ∀ e, findE T p = some e → dirK e.kind = false) (hb : belowB q p = true) : findE T q = none :=
  h.bare_find hp (fun d hd hdp => by
    have h1 := rise_find h.rise hd
    rw [hdp] at h1
    exact hf d h1) hb
theorem wov_tree {ls : List (List En)} {U : List En} {p : Bs} {e : En} (hz : askL (ls ++ [U]) p = 0) (he : entFault e = 0) (hep : e.path = p) (hk : e.kind = 1) (h : wrS (allE (ls ++ [U])) p = 0) (hl : (fillS U e).length ≤ 12) : allE (ls ++ [fillS U e]) = putE (allE (ls ++ [U])) e := by
  obtain ⟨ht, hU, hp, hT⟩ := parts_of hz
  have hF := (right_fit.1 hU).1
  have hTF := merge_fit ht hF
  rw [hT] at h ⊢
  rw [allE_snoc]
  subst hep
  have hh : homeC (mergeE (allE ls) U) e.path = 0 := by
    by_cases hh : homeC (mergeE (allE ls) U) e.path = 0
    · exact hh
    · rw [wrS, if_neg hh] at h; exact h
  refine view_put ht hU he hh hl (by rw [asT, if_neg (by rw [hk]; decide)]) (by rw [hk]; decide) (fun q hb => view_low ht hU he hh hl (by rw [hk]; decide) (fun hx => by rw [hk] at hx; cases hx) hb) (fun q hb => bare_at hTF.fit hp (fun d hd => ?_) hb)
  rw [wrS, if_pos hh, hd] at h
  have hkd := hTF.kind d (find_mem hd).1
  simp only [treeK, decide_eq_true_eq] at hkd
  rcases hkd with hkd | hkd
  · rw [hkd]; rfl
  · simp [hkd] at h
theorem dirF_ent {U : List En} {p : Bs} (hp : faultP p = 0) : entFault (dirF U p) = 0 ∧ (dirF U p).path = p ∧ asT (dirF U p) = dirE p ∧ (dirF U p).kind ≠ 3 := by
  have h4 : entFault (⟨p, 4, 0, []⟩ : En) = 0 := by
    rw [entFault_digs (e := ⟨p, 4, 0, []⟩) hp (by simp [formE]) (by simp [sizeE]) (by simp [manyE])]
    rfl
  have key : dirF U p = ⟨p, 4, 0, []⟩ ∨ dirF U p = ⟨p, 2, 0, []⟩ := by
    unfold dirF
    cases findE U p with
    | none => exact .inr rfl
    | some x =>
      by_cases hk : x.kind = 3
      · left; simp [hk]
      · right; simp [hk]
  rcases key with h | h <;> rw [h]
  · exact ⟨h4, rfl, by simp [asT, kindE, dirE], by simp⟩
  · exact ⟨dirE_right hp, rfl, by simp [asT, dirE], by simp⟩
theorem mov_tree {ls : List (List En)} {U : List En} {p : Bs} (hz : askL (ls ++ [U]) p = 0) (h : mkS (allE (ls ++ [U])) p = 0) (hl : (fillS U (dirF U p)).length ≤ 12) : allE (ls ++ [fillS U (dirF U p)]) = putE (allE (ls ++ [U])) (dirE p) := by
  obtain ⟨ht, hU, hp, hT⟩ := parts_of hz
  have hF := (right_fit.1 hU).1
  have hTF := merge_fit ht hF
  rw [hT] at h ⊢
  rw [allE_snoc]
  obtain ⟨he, hep, has, hk3⟩ := dirF_ent (U := U) hp
  have hh : homeC (mergeE (allE ls) U) p = 0 := by
    by_cases hh : homeC (mergeE (allE ls) U) p = 0
    · exact hh
    · rw [mkS, if_neg hh] at h; exact h
  have hn : findE (mergeE (allE ls) U) p = none := by
    rw [mkS, if_pos hh] at h
    cases hs : findE (mergeE (allE ls) U) p with
    | none => rfl
    | some x => rw [hs] at h; simp at h
  have hlow2 : ∀ q, belowB q p = true → findE (mergeE (allE ls) U) q = none := fun q hb => bare_at hTF.fit hp (fun d hd => by rw [hn] at hd; cases hd) hb
  have hh2 : homeC (mergeE (allE ls) U) (dirF U p).path = 0 := by rw [hep]; exact hh
  refine view_put ht hU he hh2 hl has hk3 (fun q hb => ?_) (fun q hb => hlow2 q (by rw [← hep]; exact hb))
  have hb2 : belowB q p = true := by rw [← hep]; exact hb
  have hsee := merge_find ht hF p
  rw [hn] at hsee
  cases hu : findE U p with
  | none =>
    rw [view_dir ht hU he hh2 hl (by simp [dirF, hu]) (by rw [hep]; exact hu) hb]
    exact hlow2 q hb2
  | some x =>
    rw [seeT_some hu] at hsee
    by_cases hk : x.kind = 3
    · refine view_low ht hU he hh2 hl (by simp [dirF, hu, hk]) (fun _ => bare_at hF hp (fun d hd => ?_) hb2) hb
      rw [hu] at hd
      cases hd
      rw [hk]; rfl
    · rw [if_neg hk] at hsee; cases hsee
theorem kids_bare {T : List En} (h : RightT T) {p : Bs} (hp : faultP p = 0) (hk : removeC T p = 0) {q : Bs} (hb : belowB q p = true) : findE T q = none := by
  have h1 := right_remove h hk
  have hne : q ≠ p := fun e => by have := below_len hb; rw [e] at this; omega
  rw [← findE_off (es := T) hne]
  exact bare_at (rightT_fit.1 h1).1.fit hp (fun e he => by rw [findE_gone] at he; cases he) hb
theorem rm_remove {T : List En} {p : Bs} (h : FitT T) (hp : faultP p = 0) : rmS T p = removeC T p := by
  unfold rmS removeC
  cases hs : findE T p with
  | none => rfl
  | some e =>
    have hl : (namesE T p).length = (kidsE T p).length := by simp [namesE]
    simp only []
    by_cases hk : e.kind = 2
    · rw [if_pos hk, hl]
      by_cases h0 : kidsE T p = []
      · simp [h0]
      · rw [if_pos (List.length_pos_iff.2 h0), if_neg h0]
    · rw [if_neg hk, if_pos]
      rw [kids_none]
      intro x hx hxp
      have hkd := h.kind e (find_mem hs).1
      have h0 : parentP x.path ≠ [] := fun e0 => by rw [hxp] at e0; rw [e0] at hp; revert hp; decide
      have hb := (parent_above (h.fit.path hx) h0).2
      rw [hxp] at hb
      have hn := bare_at h.fit hp (fun d hd => by
        rw [hs] at hd
        cases hd
        simp only [treeK, decide_eq_true_eq] at hkd
        rcases hkd with hkd | hkd
        · rw [hkd]; rfl
        · exact absurd hkd hk) hb
      exact find_yes_of hx hn
end Go.Proofs.YtebgfaohhhgdpaaGreat

namespace Go.Proofs.YtebgfaohhhgdpaaGreat
set_option linter.unusedVariables false

def whiteQ (p : Bs) : En := ⟨p, 3, 0, []⟩
theorem whiteQ_ent {p : Bs} (hp : faultP p = 0) : entFault (whiteQ p) = 0 := by
  rw [entFault_digs (e := whiteQ p) hp (by simp [formE, whiteQ]) (by simp [sizeE, whiteQ]) (by simp [manyE, whiteQ])]
  rfl
theorem rov_white {ls : List (List En)} {U : List En} {p : Bs} (hz : askL (ls ++ [U]) p = 0) (hT40 : RightT (allE (ls ++ [U]))) (h : removeC (allE (ls ++ [U])) p = 0) (hl : (fillS U (whiteQ p)).length ≤ 12) : Right (fillS U (whiteQ p)) ∧ allE (ls ++ [fillS U (whiteQ p)]) = offE (allE (ls ++ [U])) p := by
  obtain ⟨ht, hU, hp, hT⟩ := parts_of hz
  have hF := (right_fit.1 hU).1
  have hTF := merge_fit ht hF
  have hs : ∃ x, findE (allE (ls ++ [U])) p = some x := by
    cases hs : findE (allE (ls ++ [U])) p with
    | none => rw [removeC, hs] at h; cases h
    | some x => exact ⟨x, rfl⟩
  obtain ⟨x, hx⟩ := hs
  have he := whiteQ_ent hp
  have hh : homeC (mergeE (allE ls) U) (whiteQ p).path = 0 := by rw [← hT]; exact home_seen (rightT_fit.1 hT40).1 hx
  have hR := fill_right hU he (dirs_ok ht hF hp hh) hl
  refine ⟨hR, ?_⟩
  have hoff := right_remove hT40 h
  rw [allE_snoc]
  refine rise_ext (merge_fit ht (right_fit.1 hR).1).fit.rise hoff.rise (fun q => ?_)
  by_cases hq : q = p
  · subst hq
    rw [findE_gone]
    have := view_at ht hU he hh hl
    rw [if_pos (show (whiteQ q).kind = 3 from rfl)] at this
    exact this
  · rw [findE_off hq]
    cases hb : belowB q p with
    | true =>
      rw [kids_bare hT40 hp h hb]
      exact view_low ht hU he hh hl (by simp [whiteQ]) (fun hx => by cases hx) hb
    | false => rw [hT]; exact view_out ht hU he hh hl hq hb
theorem rov_gone {ls : List (List En)} {U : List En} {p : Bs} (hz : askL (ls ++ [U]) p = 0) (hT40 : RightT (allE (ls ++ [U]))) (h : removeC (allE (ls ++ [U])) p = 0) (hn : findE (allE (ls ++ [restE U p true])) p = none) : Right (restE U p true) ∧ allE (ls ++ [restE U p true]) = offE (allE (ls ++ [U])) p := by
  obtain ⟨ht, hU, hp, hT⟩ := parts_of hz
  have hF := (right_fit.1 hU).1
  have hR := right_restE hU hp
  have hFR := (right_fit.1 hR).1
  refine ⟨hR, ?_⟩
  have hoff := right_remove hT40 h
  rw [allE_snoc] at hn ⊢
  have hM := merge_fit ht hFR
  refine rise_ext hM.fit.rise hoff.rise (fun q => ?_)
  by_cases hq : q = p
  · subst hq
    rw [findE_gone]; exact hn
  · rw [findE_off hq]
    cases hb : belowB q p with
    | true =>
      rw [kids_bare hT40 hp h hb]
      exact bare_at hM.fit hp (fun e he => by rw [hn] at he; cases he) hb
    | false =>
      have h3 := find_rest U p q
      rw [if_neg hq, hb] at h3
      simp only [Bool.false_eq_true, if_false] at h3
      have hhid : hid (restE U p true) q = hid U q := by
        rw [Bool.eq_iff_iff, hid_iff, hid_iff]
        constructor
        · rintro ⟨x, hx, hk, hxb⟩
          exact ⟨x, (List.mem_filter.1 hx).1, hk, hxb⟩
        · rintro ⟨x, hx, hk, hxb⟩
          have hne : x.path ≠ p := fun e1 => by rw [e1] at hxb; rw [hb] at hxb; cases hxb
          have hnb : belowB x.path p = false := by
            cases h1 : belowB x.path p with
            | false => rfl
            | true => rw [below_trans hxb h1] at hb; cases hb
          have h4 := find_rest U p x.path
          rw [if_neg hne, hnb, rise_find hF.rise hx] at h4
          simp only [Bool.false_eq_true, if_false] at h4
          exact ⟨x, (find_mem h4).1, hk, hxb⟩
      rw [hT, merge_find ht hFR, merge_find ht hF]
      cases hu : findE U q with
      | none => rw [seeT_none (h3.trans hu), seeT_none hu, hhid]
      | some x => rw [seeT_some (h3.trans hu), seeT_some hu]
end Go.Proofs.YtebgfaohhhgdpaaGreat

namespace Go.Proofs.YtebgfaohhhgdpaaGreat
open Go.RowKit Go.Maps
set_option linter.unusedVariables false
attribute [local go_sem ↓] Go.wp_at_zero Go.wp_at_succ

structure MovOf (ls : List (List En)) (U : List En) (p : Bs) (q rep : Int) (V : List En) : Prop where
  bad : askL (ls ++ [U]) p ≠ 0 → q = askL (ls ++ [U]) p ∧ rep = 0 ∧ V = []
  no : askL (ls ++ [U]) p = 0 → movR (ls ++ [U]) p ≠ 0 → q = 0 ∧ rep = movR (ls ++ [U]) p ∧ V = U
  yes : askL (ls ++ [U]) p = 0 → movR (ls ++ [U]) p = 0 → q = 0 ∧ rep = wrtR U ⟨p, dirKd U p, 0, []⟩ ∧ V = wrtL U ⟨p, dirKd U p, 0, []⟩
structure WovOf (ls : List (List En)) (U : List En) (p : Bs) (zs : List Int) (q rep : Int) (V : List En) : Prop where
  bad : askL (ls ++ [U]) p ≠ 0 → q = askL (ls ++ [U]) p ∧ rep = 0 ∧ V = []
  big : askL (ls ++ [U]) p = 0 → fileCode p zs ≠ 0 → q = fileCode p zs ∧ rep = 0 ∧ V = []
  no : askL (ls ++ [U]) p = 0 → fileCode p zs = 0 → wovR (ls ++ [U]) p ≠ 0 → q = 0 ∧ rep = wovR (ls ++ [U]) p ∧ V = U
  yes : askL (ls ++ [U]) p = 0 → fileCode p zs = 0 → wovR (ls ++ [U]) p = 0 → q = 0 ∧ rep = wrtR U (fileE p zs) ∧ V = wrtL U (fileE p zs)
structure RovOf (ls : List (List En)) (U : List En) (p : Bs) (q rep : Int) (V : List En) : Prop where
  bad : askL (ls ++ [U]) p ≠ 0 → q = askL (ls ++ [U]) p ∧ rep = 0 ∧ V = []
  no : askL (ls ++ [U]) p = 0 → rovR (ls ++ [U]) p ≠ 0 → q = 0 ∧ rep = rovR (ls ++ [U]) p ∧ V = U
  gone : askL (ls ++ [U]) p = 0 → rovR (ls ++ [U]) p = 0 → plcC (ls ++ [restP U p]) p ≠ 0 → q = 0 ∧ rep = 0 ∧ V = restP U p
  white : askL (ls ++ [U]) p = 0 → rovR (ls ++ [U]) p = 0 → plcC (ls ++ [restP U p]) p = 0 → q = 0 ∧ rep = wrtR U ⟨p, 3, 0, []⟩ ∧ V = wrtL U ⟨p, 3, 0, []⟩
set_option maxRecDepth 100000 in
set_option maxHeartbeats 6400000 in
theorem implMakeOver_any (a : Option Addr) (c n : Nat) (ls : List (List En)) (u : Option Addr) (uc m : Nat) (U : List En) (p : Bs) (w : World) (h : RdL w a ls) (hn : n = ls.length) (hl : ls.length ≤ 1000000) (hs : SmallL ls) (hU : RdE w u U) (hm : m = U.length) (hUl : U.length ≤ 1000000) (hUs : SmallE U) (hpl : p.length ≤ 1048576) :
    Calls Tryz.prog 9 #[.slice a n c, .slice u m uc, .string (str p)] w fun r w' => ∃ q rep V, MovOf ls U p q rep V ∧ ResG q rep V w r w' := by
  subst hn
  subst hm
  have X0 := hide (Box3.new w (.int .i64 0) (.int .i64 0) (.slice none 0 0) 32)
  have B0 := hide (below_alloc w (.cells #[.int .i64 0, .int .i64 0, .slice none 0 0] 32))
  have HW := hide (withUpper_any a c ls.length ls u uc U.length U _ (h.below B0.out) rfl hl (hU.below B0.out) rfl)
  have HSL := hide (smallL_snoc hs hUl hUs)
  have HLn := hide (show (ls ++ [U]).length ≤ 1048576 by rw [List.length_append]; simp; omega)
  have HU := hide hU
  have HUs := hide hUs
  clear h hU hs hUs
  have HST := hide (fun (q : Int) v (hv : Below w.heap.size w v) => stays_any u uc U.length U q v (HU.out.below hv) rfl (by omega) HUs.out)
  obtain ⟨al, hal⟩ : ∃ al, al = ls ++ [U] := ⟨_, rfl⟩
  rw [← hal] at HW HSL HLn
  have HALL := hide hal
  clear hal
  go_enter Tryz.func9, Tryz.ntmps9
  go_wp2_with fail
  refine HW.out.mono ?_
  rintro r w1 ⟨av, cv, rfl, hr1, hb1⟩
  have X1 := hide (X0.out.below hb1)
  have B1 := hide (below_next B0.out hb1)
  have R1 := hide hr1
  have hlt := X1.out.lt
  have HAS := hide (implAskL_any av cv al.length al p w1 hr1 rfl HLn.out HSL.out hpl)
  clear hr1 hb1 HW X0 B0
  by_cases hz : askL al p = 0
  · obtain ⟨h4, hRs, hp⟩ := askL_right hz
    have HRU := hide (show Right U from hRs U (by rw [HALL.out]; simp))
    have HZ := hide hz
    have HP := hide hp
    rw [hz] at HAS
    clear hz hRs hp
    go_wp2_with fail
    refine HAS.out.mono ?_
    rintro r w2 ⟨rfl, hb2⟩
    have X2 := hide (X1.out.below hb2)
    have B2 := hide (below_next B1.out hb2)
    have R2 := hide (R1.out.below hb2)
    clear hb2 HAS X1 B1 R1
    have HMR := hide (makeOverR_any av cv al.length al p w2 R2.out rfl HLn.out HSL.out HP.out hpl)
    by_cases hc : movR al p = 0
    · have HCP : Hid (MovOf ls U p 0 (wrtR U ⟨p, dirKd U p, 0, []⟩) (wrtL U ⟨p, dirKd U p, 0, []⟩)) := hide (by
        have z1 := HZ.out
        have z2 := hc
        rw [HALL.out] at z1 z2
        exact ⟨fun h => absurd z1 h, fun _ h => absurd z2 h, fun _ _ => ⟨rfl, rfl, rfl⟩⟩)
      have HDK := hide (fun v (hv : Below w.heap.size w v) => dirKind_any u uc U.length U p v (HU.out.below hv) rfl (by omega) HUs.out hpl)
      have HWR := hide (fun v (hv : Below w.heap.size w v) => written_any u uc U.length U ⟨p, dirKd U p, 0, []⟩ none 0 0 v HRU.out (HU.out.below hv) rfl HP.out rfl (fun hz => absurd rfl hz) hpl (by simp))
      rw [hc] at HMR
      generalize dirKd U p = DK at *
      clear hc
      go_wp2_with fail
      refine HMR.out.mono ?_
      rintro r w3 ⟨rfl, hb3⟩
      have X3 := hide (X2.out.below hb3)
      have B3 := hide (below_next B2.out hb3)
      clear hb3 HMR X2 B2
      go_wp2_with fail
      refine (HDK.out w3 B3.out).mono ?_
      rintro r w4 ⟨rfl, hb4⟩
      have X4 := hide (X3.out.below hb4)
      have B4 := hide (below_next B3.out hb4)
      have HWR4 := hide (HWR.out w4 B4.out)
      clear hb4 X3 B3 HWR HDK
      go_wp2_with fail
      refine HWR4.out.mono ?_
      rintro r w9 ⟨av9, cv9, rfl, hG9, hb9⟩
      have G9 := hide hG9
      have B9 := hide (below_next B4.out hb9)
      have hl9 := X4.out.lt
      obtain ⟨⟨t0, t1, t2⟩, t3, t4, t5⟩ := X4.out.below hb9
      clear hG9 hb9
      go_wp2_with fail
      exact bodyPost_ret (v := .agg #[.int .i64 0, .int .i64 (wrtR U ⟨p, DK, 0, []⟩), .slice av9 (wrtL U ⟨p, DK, 0, []⟩).length cv9]) (by simp [results, Tryz.results9, go_sem, t0, t1, t2]) rfl ⟨0, wrtR U ⟨p, DK, 0, []⟩, wrtL U ⟨p, DK, 0, []⟩, HCP.out, ResG.of hl9 (Nat.le_refl _) rfl G9.out B9.out⟩
    · have HCP : Hid (MovOf ls U p 0 (movR al p) U) := hide (by
        have z1 := HZ.out
        have z2 := hc
        rw [HALL.out] at z1 z2 ⊢
        exact ⟨fun h => absurd z1 h, fun _ _ => ⟨rfl, rfl, rfl⟩, fun _ h => absurd h z2⟩)
      generalize movR al p = F at *
      have hz2 : (F != 0) = true := by simp; exact hc
      clear hc
      go_wp2_with fail
      refine HMR.out.mono ?_
      rintro r w3 ⟨rfl, hb3⟩
      have X3 := hide (X2.out.below hb3)
      have B3 := hide (below_next B2.out hb3)
      clear hb3 HMR X2 B2
      go_wp2_with fail
      refine (HST.out F w3 B3.out).mono ?_
      rintro r w9 ⟨av9, cv9, rfl, hG9, hb9⟩
      have G9 := hide hG9
      have B9 := hide (below_next B3.out hb9)
      have hl9 := X3.out.lt
      obtain ⟨⟨t0, t1, t2⟩, t3, t4, t5⟩ := X3.out.below hb9
      clear hG9 hb9
      go_wp2_with fail
      exact bodyPost_ret (v := .agg #[.int .i64 0, .int .i64 F, .slice av9 U.length cv9]) (by simp [results, Tryz.results9, go_sem, t0, t1, t2]) rfl ⟨0, F, U, HCP.out, ResG.of hl9 (Nat.le_refl _) rfl G9.out B9.out⟩
  · have HCP : Hid (MovOf ls U p (askL al p) 0 []) := hide (by
      rw [HALL.out] at hz ⊢
      exact ⟨fun _ => ⟨rfl, rfl, rfl⟩, fun h => absurd h hz, fun h => absurd h hz⟩)
    generalize askL al p = F at *
    have hz2 : (F != 0) = true := by simp; exact hz
    clear hz
    go_wp2_with fail
    refine HAS.out.mono ?_
    rintro r w2 ⟨rfl, hb2⟩
    have B2 := hide (below_next B1.out hb2)
    have hl1 := X1.out.lt
    obtain ⟨⟨t0, t1, t2⟩, t3, t4, t5⟩ := X1.out.below hb2
    clear hb2
    go_wp2_with fail
    exact bodyPost_ret (v := .agg #[.int .i64 F, .int .i64 0, .slice none 0 0]) (by simp [results, Tryz.results9, go_sem, t0, t1, t2]) rfl ⟨F, 0, [], HCP.out, ResG.of (b := w.heap.size) (Nat.lt_succ_self _) (Nat.le_refl _) rfl (GW.nil _ _) B2.out⟩
set_option maxRecDepth 100000 in
set_option maxHeartbeats 6400000 in
theorem implRemoveOver_any (a : Option Addr) (c n : Nat) (ls : List (List En)) (u : Option Addr) (uc m : Nat) (U : List En) (p : Bs) (w : World) (h : RdL w a ls) (hn : n = ls.length) (hl : ls.length ≤ 1000000) (hs : SmallL ls) (hU : RdE w u U) (hm : m = U.length) (hUl : U.length ≤ 1000000) (hUs : SmallE U) (hpl : p.length ≤ 1048576) :
    Calls Tryz.prog 10 #[.slice a n c, .slice u m uc, .string (str p)] w fun r w' => ∃ q rep V, RovOf ls U p q rep V ∧ ResG q rep V w r w' := by
  subst hn
  subst hm
  have X0 := hide (Box3.new w (.int .i64 0) (.int .i64 0) (.slice none 0 0) 32)
  have B0 := hide (below_alloc w (.cells #[.int .i64 0, .int .i64 0, .slice none 0 0] 32))
  have HW := hide (withUpper_any a c ls.length ls u uc U.length U _ (h.below B0.out) rfl hl (hU.below B0.out) rfl)
  have HSL := hide (smallL_snoc hs hUl hUs)
  have HLn := hide (show (ls ++ [U]).length ≤ 1048576 by rw [List.length_append]; simp; omega)
  have HU := hide hU
  have HUs := hide hUs
  have HSM := hide (hs)
  have HRD := hide h
  have hf0 : ∀ (w : World) (F : Int) (v : Value), (Instr.field 42 (.agg #[.int .i64 F, v]) 0).run Tryz.prog w = .ok (.int .i64 F) w := fun _ _ _ => by kernel_rfl
  have hf1 : ∀ (w : World) (F : Int) (v : Value), (Instr.field 42 (.agg #[.int .i64 F, v]) 1).run Tryz.prog w = .ok v w := fun _ _ _ => by kernel_rfl
  clear h hU hs hUs
  have HST := hide (fun (q : Int) v (hv : Below w.heap.size w v) => stays_any u uc U.length U q v (HU.out.below hv) rfl (by omega) HUs.out)
  obtain ⟨al, hal⟩ : ∃ al, al = ls ++ [U] := ⟨_, rfl⟩
  rw [← hal] at HW HSL HLn
  have HALL := hide hal
  clear hal
  go_enter Tryz.func10, Tryz.ntmps10
  go_wp2_with fail
  refine HW.out.mono ?_
  rintro r w1 ⟨av, cv, rfl, hr1, hb1⟩
  have X1 := hide (X0.out.below hb1)
  have B1 := hide (below_next B0.out hb1)
  have R1 := hide hr1
  have hlt := X1.out.lt
  have HAS := hide (implAskL_any av cv al.length al p w1 hr1 rfl HLn.out HSL.out hpl)
  clear hr1 hb1 HW X0 B0
  by_cases hz : askL al p = 0
  · obtain ⟨h4, hRs, hp⟩ := askL_right hz
    have HRU := hide (show Right U from hRs U (by rw [HALL.out]; simp))
    have HZ := hide hz
    have HP := hide hp
    rw [hz] at HAS
    clear hz hRs hp
    go_wp2_with fail
    refine HAS.out.mono ?_
    rintro r w2 ⟨rfl, hb2⟩
    have X2 := hide (X1.out.below hb2)
    have B2 := hide (below_next B1.out hb2)
    have R2 := hide (R1.out.below hb2)
    clear hb2 HAS X1 B1 R1
    have HMR := hide (removeOverR_any av cv al.length al p w2 R2.out rfl HLn.out HSL.out hpl)
    by_cases hc : rovR al p = 0
    · have HC := hide hc
      rw [hc] at HMR
      clear hc
      have hdz : dropListP U p = restP U p := by rw [dropListP, if_pos (askP_of HRU.out HP.out)]
      have HDB := hide (fun v (hv : Below w.heap.size w v) => implDropBelow_any u uc U.length U p v (HU.out.below hv) rfl (by omega) HUs.out hpl)
      rw [hdz, askP_of HRU.out HP.out] at HDB
      have hrl : (restP U p).length ≤ 1000000 := by have := List.length_filter_le (fun e : En => !(atBelow e.path p)) U; have e9 : restP U p = U.filter (fun e : En => !(atBelow e.path p)) := rfl; rw [e9]; omega
      have HRS := hide (show SmallE (restP U p) from fun e he => HUs.out e (List.mem_filter.1 he).1)
      have HL2 := hide (smallL_snoc HSM.out hrl HRS.out)
      have HN2 := hide (show (ls ++ [restP U p]).length ≤ 1048576 by rw [List.length_append]; simp; omega)
      have HCP1 : Hid (plcC (ls ++ [restP U p]) p ≠ 0 → RovOf ls U p 0 0 (restP U p)) := hide (fun z3 => by
        have z1 := HZ.out
        have z2 := HC.out
        rw [HALL.out] at z1 z2
        exact ⟨fun h => absurd z1 h, fun _ h => absurd z2 h, fun _ _ _ => ⟨rfl, rfl, rfl⟩, fun _ _ h => absurd h z3⟩)
      have HCP2 : Hid (plcC (ls ++ [restP U p]) p = 0 → RovOf ls U p 0 (wrtR U ⟨p, 3, 0, []⟩) (wrtL U ⟨p, 3, 0, []⟩)) := hide (fun z3 => by
        have z1 := HZ.out
        have z2 := HC.out
        rw [HALL.out] at z1 z2
        exact ⟨fun h => absurd z1 h, fun _ h => absurd z2 h, fun _ _ h => absurd z3 h, fun _ _ _ => ⟨rfl, rfl, rfl⟩⟩)
      have HWR := hide (fun v (hv : Below w.heap.size w v) => written_any u uc U.length U ⟨p, 3, 0, []⟩ none 0 0 v HRU.out (HU.out.below hv) rfl HP.out rfl (fun hz => absurd rfl hz) hpl (by simp))
      clear hdz
      generalize restP U p = RU at *
      go_wp2_with fail
      refine HMR.out.mono ?_
      rintro r w3 ⟨rfl, hb3⟩
      have X3 := hide (X2.out.below hb3)
      have B3 := hide (below_next B2.out hb3)
      clear hb3 HMR X2 B2
      go_wp2_with fail
      refine (HDB.out w3 B3.out).mono ?_
      rintro r w4 ⟨dv, dc, rfl, hG4, hb4⟩
      have hs3 := B3.out.size
      have hx3 := X3.out.lt
      have X4 := hide (X3.out.below hb4)
      have B4 := hide (below_next B3.out hb4)
      have G4 := hide (GW.of hG4)
      clear hb4 hG4 X3 B3 HDB
      have HW4 := hide (withUpper_any a c ls.length ls dv dc RU.length RU w4 (HRD.out.below B4.out) rfl hl G4.out.rd rfl)
      go_wp2_with fail
      refine HW4.out.mono ?_
      rintro r w5 ⟨av5, cv5, rfl, hr5, hb5⟩
      have X5 := hide (X4.out.below hb5)
      have B5 := hide (below_next B4.out hb5)
      have G5 := hide (G4.out.below hb5)
      have HLO : Hid (Calls Tryz.prog 37 #[.slice av5 (ls ++ [RU]).length cv5, .string (str p)] w5 fun r w' => ∃ lv ln lc, r = .returned (.agg #[.int .i64 (plcC (ls ++ [RU]) p), .slice lv ln lc]) ∧ Below w5.heap.size w5 w') := hide ((implLookOver_any av5 cv5 (ls ++ [RU]).length (ls ++ [RU]) p w5 hr5 rfl HN2.out HL2.out hpl).mono (fun r w' ⟨lv, lc, h2, _, h4⟩ => ⟨lv, _, lc, h2, h4⟩))
      clear hr5 hb5 HW4 X4 B4 G4 HL2 HN2
      generalize plcC (ls ++ [RU]) p = PC at *
      generalize ls ++ [RU] = al2 at *
      by_cases hq : PC = 0
      · have HCP := hide (HCP2.out hq)
        subst hq
        clear HCP1 HCP2
        go_wp2_with fail
        refine HLO.out.mono ?_
        rintro r w6 ⟨lv, ln, lc, rfl, hb6⟩
        have X6 := hide (X5.out.below hb6)
        have B6 := hide (below_next B5.out hb6)
        clear hb6 X5 B5 HLO G5
        have HWR6 := hide (HWR.out w6 B6.out)
        clear HWR
        go_wp2_with fail
        refine HWR6.out.mono ?_
        rintro r w9 ⟨av9, cv9, rfl, hG9, hb9⟩
        have G9 := hide hG9
        have B9 := hide (below_next B6.out hb9)
        have hl9 := X6.out.lt
        obtain ⟨⟨t0, t1, t2⟩, t3, t4, t5⟩ := X6.out.below hb9
        clear hG9 hb9
        go_wp2_with fail
        exact bodyPost_ret (v := .agg #[.int .i64 0, .int .i64 (wrtR U ⟨p, 3, 0, []⟩), .slice av9 (wrtL U ⟨p, 3, 0, []⟩).length cv9]) (by simp [results, Tryz.results10, go_sem, t0, t1, t2]) rfl ⟨0, wrtR U ⟨p, 3, 0, []⟩, wrtL U ⟨p, 3, 0, []⟩, HCP.out, ResG.of hl9 (Nat.le_refl _) rfl G9.out B9.out⟩
      · have HCP := hide (HCP1.out hq)
        have hz2 : (PC != 0) = true := by simp; exact hq
        clear HCP1 HCP2 hq HWR
        go_wp2_with fail
        refine HLO.out.mono ?_
        rintro r w6 ⟨lv, ln, lc, rfl, hb6⟩
        have hl6 := X5.out.lt
        have B6 := hide (below_next B5.out hb6)
        have G6 := hide (G5.out.below hb6)
        obtain ⟨⟨t0, t1, t2⟩, t3, t4, t5⟩ := X5.out.below hb6
        clear hb6 X5 B5 HLO G5
        go_wp2_with fail
        exact bodyPost_ret (v := .agg #[.int .i64 0, .int .i64 0, .slice dv RU.length dc]) (by simp [results, Tryz.results10, go_sem, t0, t1, t2]) rfl ⟨0, 0, RU, HCP.out, ResG.of (b := w.heap.size) hx3 (Nat.le_refl _) rfl G6.out B6.out⟩
    · have HCP : Hid (RovOf ls U p 0 (rovR al p) U) := hide (by
        have z1 := HZ.out
        have z2 := hc
        rw [HALL.out] at z1 z2 ⊢
        exact ⟨fun h => absurd z1 h, fun _ _ => ⟨rfl, rfl, rfl⟩, fun _ h => absurd h z2, fun _ h => absurd h z2⟩)
      generalize rovR al p = F at *
      have hz2 : (F != 0) = true := by simp; exact hc
      clear hc
      go_wp2_with fail
      refine HMR.out.mono ?_
      rintro r w3 ⟨rfl, hb3⟩
      have X3 := hide (X2.out.below hb3)
      have B3 := hide (below_next B2.out hb3)
      clear hb3 HMR X2 B2
      go_wp2_with fail
      refine (HST.out F w3 B3.out).mono ?_
      rintro r w9 ⟨av9, cv9, rfl, hG9, hb9⟩
      have G9 := hide hG9
      have B9 := hide (below_next B3.out hb9)
      have hl9 := X3.out.lt
      obtain ⟨⟨t0, t1, t2⟩, t3, t4, t5⟩ := X3.out.below hb9
      clear hG9 hb9
      go_wp2_with fail
      exact bodyPost_ret (v := .agg #[.int .i64 0, .int .i64 F, .slice av9 U.length cv9]) (by simp [results, Tryz.results10, go_sem, t0, t1, t2]) rfl ⟨0, F, U, HCP.out, ResG.of hl9 (Nat.le_refl _) rfl G9.out B9.out⟩
  · have HCP : Hid (RovOf ls U p (askL al p) 0 []) := hide (by
      rw [HALL.out] at hz ⊢
      exact ⟨fun _ => ⟨rfl, rfl, rfl⟩, fun h => absurd h hz, fun h => absurd h hz, fun h => absurd h hz⟩)
    generalize askL al p = F at *
    have hz2 : (F != 0) = true := by simp; exact hz
    clear hz
    go_wp2_with fail
    refine HAS.out.mono ?_
    rintro r w2 ⟨rfl, hb2⟩
    have B2 := hide (below_next B1.out hb2)
    have hl1 := X1.out.lt
    obtain ⟨⟨t0, t1, t2⟩, t3, t4, t5⟩ := X1.out.below hb2
    clear hb2
    go_wp2_with fail
    exact bodyPost_ret (v := .agg #[.int .i64 F, .int .i64 0, .slice none 0 0]) (by simp [results, Tryz.results10, go_sem, t0, t1, t2]) rfl ⟨F, 0, [], HCP.out, ResG.of (b := w.heap.size) (Nat.lt_succ_self _) (Nat.le_refl _) rfl (GW.nil _ _) B2.out⟩
set_option maxRecDepth 100000 in
set_option maxHeartbeats 6400000 in
theorem implWriteOver_any (a : Option Addr) (c n : Nat) (ls : List (List En)) (u : Option Addr) (uc m : Nat) (U : List En) (p : Bs) (zs : List Int) (d : Option Addr) (dn dc : Nat) (w : World) (h : RdL w a ls) (hn : n = ls.length) (hl : ls.length ≤ 1000000) (hs : SmallL ls) (hU : RdE w u U) (hm : m = U.length) (hUl : U.length ≤ 1000000) (hUs : SmallE U) (hpl : p.length ≤ 1048576) (hd : Reads .u8 w d zs) (hdn : dn = zs.length) (hu8 : U8 zs) (hdc : zs.length ≤ dc) (hdl : zs.length ≤ 1048576) :
    Calls Tryz.prog 8 #[.slice a n c, .slice u m uc, .string (str p), .slice d dn dc] w fun r w' => ∃ q rep V, WovOf ls U p zs q rep V ∧ ResG q rep V w r w' := by
  subst hn
  subst hm
  subst hdn
  have X0 := hide (Box3.new w (.int .i64 0) (.int .i64 0) (.slice none 0 0) 32)
  have B0 := hide (below_alloc w (.cells #[.int .i64 0, .int .i64 0, .slice none 0 0] 32))
  have HW := hide (withUpper_any a c ls.length ls u uc U.length U _ (h.below B0.out) rfl hl (hU.below B0.out) rfl)
  have HSL := hide (smallL_snoc hs hUl hUs)
  have HLn := hide (show (ls ++ [U]).length ≤ 1048576 by rw [List.length_append]; simp; omega)
  have HU := hide hU
  have HUs := hide hUs
  have HD := hide hd
  have HU8 := hide hu8
  clear hd hu8
  clear h hU hs hUs
  have HST := hide (fun (q : Int) v (hv : Below w.heap.size w v) => stays_any u uc U.length U q v (HU.out.below hv) rfl (by omega) HUs.out)
  obtain ⟨al, hal⟩ : ∃ al, al = ls ++ [U] := ⟨_, rfl⟩
  rw [← hal] at HW HSL HLn
  have HALL := hide hal
  clear hal
  go_enter Tryz.func8, Tryz.ntmps8
  go_wp2_with fail
  refine HW.out.mono ?_
  rintro r w1 ⟨av, cv, rfl, hr1, hb1⟩
  have X1 := hide (X0.out.below hb1)
  have B1 := hide (below_next B0.out hb1)
  have R1 := hide hr1
  have hlt := X1.out.lt
  have HAS := hide (implAskL_any av cv al.length al p w1 hr1 rfl HLn.out HSL.out hpl)
  clear hr1 hb1 HW X0 B0
  by_cases hz : askL al p = 0
  · obtain ⟨h4, hRs, hp⟩ := askL_right hz
    have HRU := hide (show Right U from hRs U (by rw [HALL.out]; simp))
    have HZ := hide hz
    have HP := hide hp
    rw [hz] at HAS
    clear hz hRs hp
    go_wp2_with fail
    refine HAS.out.mono ?_
    rintro r w2 ⟨rfl, hb2⟩
    have X2 := hide (X1.out.below hb2)
    have B2 := hide (below_next B1.out hb2)
    have R2 := hide (R1.out.below hb2)
    clear hb2 HAS X1 B1 R1
    have HFE := hide (implFileEntry_any p d dc zs.length zs w2 (HD.out.below B2.out) rfl HU8.out hdc hpl hdl)
    by_cases hf : fileCode p zs = 0
    · have HFC := hide hf
      have hfl : fileList p zs = [fileE p zs] := by rw [fileList, if_pos hf]
      have HEC := hide (show (fileE p zs).chunks.length ≤ 1048576 by show (digs zs (cut zs).length).length ≤ 1048576; rw [digs_length, cut_length]; omega)
      have HEP := hide (show (fileE p zs).path = p from rfl)
      rw [hf, hfl] at HFE
      have HCP1 : Hid (wovR al p ≠ 0 → WovOf ls U p zs 0 (wovR al p) U) := hide (fun z2 => by
        have z1 := HZ.out
        rw [HALL.out] at z1 z2 ⊢
        exact ⟨fun h => absurd z1 h, fun _ h => absurd hf h, fun _ _ _ => ⟨rfl, rfl, rfl⟩, fun _ _ h => absurd h z2⟩)
      have HCP2 : Hid (wovR al p = 0 → WovOf ls U p zs 0 (wrtR U (fileE p zs)) (wrtL U (fileE p zs))) := hide (fun z2 => by
        have z1 := HZ.out
        rw [HALL.out] at z1 z2
        exact ⟨fun h => absurd z1 h, fun _ h => absurd hf h, fun _ _ h => absurd z2 h, fun _ _ _ => ⟨rfl, rfl, rfl⟩⟩)
      clear hf hfl
      generalize fileE p zs = fe at *
      go_wp2_with fail
      refine HFE.out.mono ?_
      rintro r w3 ⟨lv, lc, rfl, hG3, hb3⟩
      simp only [List.length_singleton] at hG3 ⊢
      have A3 := hide (below_alloc w3 (.cells #[.int .i64 0, .slice lv 1 lc] 42))
      have T3 := hide (Box.new w3 (.int .i64 0) (.slice lv 1 lc) 42)
      have X3 := hide (X2.out.below (below_next hb3 A3.out))
      have B3 := hide (below_next B2.out (below_next hb3 A3.out))
      have RE3 := hide (hG3.rd.below A3.out)
      have R3 := hide (R2.out.below (below_next hb3 A3.out))
      clear hG3 hb3 HFE X2 B2 R2 A3
      obtain ⟨yb, yo, e', y, yc, rfl, hyb, hye, y0, y1, y2, y3, hyr⟩ := RE3.out.at (k := 0) (by simp)
      simp only [List.getElem?_cons_zero, Option.some.injEq] at hye
      subst hye
      simp only [Nat.zero_mul, Nat.add_zero] at y0 y1 y2 y3
      have HYR := hide hyr
      have KY : Hid (∀ W : World, Below (w3.alloc (.cells #[.int .i64 0, .slice (some ⟨yb, yo, none⟩) 1 lc] 42)).heap.size (w3.alloc (.cells #[.int .i64 0, .slice (some ⟨yb, yo, none⟩) 1 lc] 42)) W → (W.cell? ⟨yb, yo, none⟩ = some (.string (str fe.path)) ∧ W.cell? ⟨yb, yo + 1, none⟩ = some (.int .i64 fe.kind) ∧ W.cell? ⟨yb, yo + 2, none⟩ = some (.int .i64 fe.size) ∧ W.cell? ⟨yb, yo + 3, none⟩ = some (.slice y fe.chunks.length yc)) ∧ Reads .i64 W y fe.chunks) := hide (fun W hW => ⟨⟨(hW.cell (p := ⟨yb, yo, none⟩) hyb).trans y0, (hW.cell (p := ⟨yb, yo + 1, none⟩) hyb).trans y1, (hW.cell (p := ⟨yb, yo + 2, none⟩) hyb).trans y2, (hW.cell (p := ⟨yb, yo + 3, none⟩) hyb).trans y3⟩, HYR.out.below hW⟩)
      have HMR := hide (writeOverR_any av cv al.length al p (w3.alloc (.cells #[.int .i64 0, .slice (some ⟨yb, yo, none⟩) 1 lc] 42)) R3.out rfl HLn.out HSL.out HP.out hpl)
      clear hyr y0 y1 y2 y3 hyb RE3
      obtain ⟨⟨s0, s1⟩, s2, s3⟩ := T3.out
      by_cases hc : wovR al p = 0
      · have HCP := hide (HCP2.out hc)
        rw [hc] at HMR
        clear hc HCP1 HCP2
        go_wp2_with fail
        clear s0 s1 s2 s3
        generalize w3.alloc (.cells #[.int .i64 0, .slice (some ⟨yb, yo, none⟩) 1 lc] 42) = W3 at *
        generalize w3.heap.size = b3 at *
        refine HMR.out.mono ?_
        rintro r w4 ⟨rfl, hb4⟩
        have X4 := hide (X3.out.below hb4)
        have T4 := hide (T3.out.below hb4)
        have B4 := hide (below_next B3.out hb4)
        have KY4 := hide (KY.out w4 hb4)
        have HWR4 := hide (written_any u uc U.length U fe y fe.chunks.length yc w4 HRU.out (HU.out.below B4.out) rfl (by rw [HEP.out]; exact HP.out) rfl KY4.out.2 (by rw [HEP.out]; exact hpl) HEC.out)
        clear hb4 X3 T3 B3 HMR
        obtain ⟨⟨s0, s1⟩, s2, s3⟩ := T4.out
        obtain ⟨⟨y0, y1, y2, y3⟩, -⟩ := KY4.out
        go_wp2_with fail
        clear s0 s1 s2 s3 y0 y1 y2 y3
        refine HWR4.out.mono ?_
        rintro r w9 ⟨av9, cv9, rfl, hG9, hb9⟩
        have G9 := hide hG9
        have B9 := hide (below_next B4.out hb9)
        have hl9 := X4.out.lt
        obtain ⟨⟨t0, t1, t2⟩, t3, t4, t5⟩ := X4.out.below hb9
        clear hG9 hb9
        go_wp2_with fail
        exact bodyPost_ret (v := .agg #[.int .i64 0, .int .i64 (wrtR U fe), .slice av9 (wrtL U fe).length cv9]) (by simp [results, Tryz.results8, go_sem, t0, t1, t2]) rfl ⟨0, wrtR U fe, wrtL U fe, HCP.out, ResG.of hl9 (Nat.le_refl _) rfl G9.out B9.out⟩
      · have HCP := hide (HCP1.out hc)
        generalize wovR al p = F at *
        have hz2 : (F != 0) = true := by simp; exact hc
        clear hc HCP1 HCP2
        go_wp2_with fail
        clear s0 s1 s2 s3
        generalize w3.alloc (.cells #[.int .i64 0, .slice (some ⟨yb, yo, none⟩) 1 lc] 42) = W3 at *
        generalize w3.heap.size = b3 at *
        refine HMR.out.mono ?_
        rintro r w4 ⟨rfl, hb4⟩
        have X4 := hide (X3.out.below hb4)
        have B4 := hide (below_next B3.out hb4)
        clear hb4 X3 T3 B3 HMR
        go_wp2_with fail
        refine (HST.out F w4 B4.out).mono ?_
        rintro r w9 ⟨av9, cv9, rfl, hG9, hb9⟩
        have G9 := hide hG9
        have B9 := hide (below_next B4.out hb9)
        have hl9 := X4.out.lt
        obtain ⟨⟨t0, t1, t2⟩, t3, t4, t5⟩ := X4.out.below hb9
        clear hG9 hb9
        go_wp2_with fail
        exact bodyPost_ret (v := .agg #[.int .i64 0, .int .i64 F, .slice av9 U.length cv9]) (by simp [results, Tryz.results8, go_sem, t0, t1, t2]) rfl ⟨0, F, U, HCP.out, ResG.of hl9 (Nat.le_refl _) rfl G9.out B9.out⟩
    · have HCP : Hid (WovOf ls U p zs (fileCode p zs) 0 []) := hide (by
        have z1 := HZ.out
        rw [HALL.out] at z1
        exact ⟨fun h => absurd z1 h, fun _ _ => ⟨rfl, rfl, rfl⟩, fun _ h => absurd h hf, fun _ h => absurd h hf⟩)
      have hz2 : (fileCode p zs != 0) = true := by simp; exact hf
      clear hf
      generalize fileCode p zs = FC at *
      go_wp2_with fail
      refine HFE.out.mono ?_
      rintro r w3 ⟨lv, lc, rfl, hG3, hb3⟩
      generalize (fileList p zs).length = LL at *
      have A3 := hide (below_alloc w3 (.cells #[.int .i64 FC, .slice lv LL lc] 42))
      have T3 := hide (Box.new w3 (.int .i64 FC) (.slice lv LL lc) 42)
      have X3 := hide (X2.out.below (below_next hb3 A3.out))
      have B3 := hide (below_next B2.out (below_next hb3 A3.out))
      have hl1 := X2.out.lt
      clear hG3 hb3 HFE X2 B2 R2 A3
      obtain ⟨⟨s0, s1⟩, s2, s3⟩ := T3.out
      obtain ⟨⟨t0, t1, t2⟩, t3, t4, t5⟩ := X3.out
      go_wp2_with fail
      exact bodyPost_ret (v := .agg #[.int .i64 FC, .int .i64 0, .slice none 0 0]) (by simp [results, Tryz.results8, go_sem, t0, t1, t2]) rfl ⟨FC, 0, [], HCP.out, ResG.of (b := w.heap.size) (Nat.lt_succ_self _) (Nat.le_refl _) rfl (GW.nil _ _) B3.out⟩
  · have HCP : Hid (WovOf ls U p zs (askL al p) 0 []) := hide (by
      rw [HALL.out] at hz ⊢
      exact ⟨fun _ => ⟨rfl, rfl, rfl⟩, fun h => absurd h hz, fun h => absurd h hz, fun h => absurd h hz⟩)
    generalize askL al p = F at *
    have hz2 : (F != 0) = true := by simp; exact hz
    clear hz
    go_wp2_with fail
    refine HAS.out.mono ?_
    rintro r w2 ⟨rfl, hb2⟩
    have B2 := hide (below_next B1.out hb2)
    have hl1 := X1.out.lt
    obtain ⟨⟨t0, t1, t2⟩, t3, t4, t5⟩ := X1.out.below hb2
    clear hb2
    go_wp2_with fail
    exact bodyPost_ret (v := .agg #[.int .i64 F, .int .i64 0, .slice none 0 0]) (by simp [results, Tryz.results8, go_sem, t0, t1, t2]) rfl ⟨F, 0, [], HCP.out, ResG.of (b := w.heap.size) (Nat.lt_succ_self _) (Nat.le_refl _) rfl (GW.nil _ _) B2.out⟩
end Go.Proofs.YtebgfaohhhgdpaaGreat

namespace Go.Proofs.YtebgfaohhhgdpaaGreat
open Go.RowKit Go.Maps
set_option linter.unusedVariables false
attribute [local go_sem ↓] Go.wp_at_zero Go.wp_at_succ


theorem fileE_right {p : Bs} {zs : List Int} (hp : faultP p = 0) (hl : zs.length ≤ 24) : entFault (fileE p zs) = 0 := by
  have h1 : formE (fileE p zs) = true := decide_eq_true ⟨by simp [fileE], .inl rfl⟩
  have h2 : sizeE (fileE p zs) = true := decide_eq_true (by simp [fileE]; omega)
  have h3 : manyE (fileE p zs) = true := decide_eq_true (by show ((digs zs (cut zs).length).length : Int) = ((zs.length : Int) + 7) / 8; rw [digs_len, cut_length]; omega)
  rw [entFault_digs hp h1 h2 h3, if_pos]
  rw [List.all_eq_true]
  intro z hz
  simp only [fileE, digs, List.mem_map] at hz
  obtain ⟨i, _, rfl⟩ := hz
  exact decide_eq_true (digest_range _)
theorem row_one (w : World) (z : Int) : (w.alloc (.cells #[.int .u8 z] 5)).ownsRow w.heap.size 5 1 (.slice (some ⟨w.heap.size, 0, none⟩) 1 1) 1 ([z].map (Value.int .u8)) :=
  ⟨rfl, .inr ⟨w.heap.size, 1, #[.int .u8 z], rfl, Nat.le_refl _, heap_alloc_new w _, Nat.le_refl _, by decide, rfl, rfl⟩⟩

end Go.Proofs.YtebgfaohhhgdpaaGreat

namespace Go.Proofs.YtebgfaohhhgdpaaGreat
set_option linter.unusedVariables false

theorem mal_up {ls : List (List En)} {U V : List En} (h : malC (ls ++ [U]) = 0) (hV : Right V) (hl : (allE (ls ++ [V])).length ≤ 40) : malC (ls ++ [V]) = 0 ∧ malL (ls ++ [V]) = allE (ls ++ [V]) := by
  obtain ⟨h1, -, -⟩ := mal_zero h
  have hok : malOK (ls ++ [U]) = true := by
    rw [malC, if_pos h1] at h
    by_cases hk : malOK (ls ++ [U]) = true
    · exact hk
    · rw [if_neg hk] at h; cases h
  obtain ⟨h4, hR⟩ := layersP_zero.1 h1
  have hz : layersP (ls ++ [V]) = 0 := layersP_zero.2 ⟨by simpa using h4, fun es he => by
    rcases List.mem_append.1 he with he | he
    · exact hR es (List.mem_append_left _ he)
    · simp at he; subst he; exact hV⟩
  have hok2 : malOK (ls ++ [V]) = true := by
    rw [malOK, List.all_eq_true] at hok ⊢
    intro j hj
    have hj2 : j ≤ ls.length + 1 := by have := List.mem_range.1 hj; simp at this; omega
    by_cases hjl : j ≤ ls.length
    · have h5 := hok j (List.mem_range.2 (by simp; omega))
      rw [List.take_append_of_le_length hjl] at h5 ⊢
      exact h5
    · rw [List.take_of_length_le (by simp; omega)]
      exact decide_eq_true hl
  have hc : malC (ls ++ [V]) = 0 := by rw [malC, if_pos hz, if_pos hok2]
  exact ⟨hc, by rw [malL, if_pos hc]⟩
theorem mal_tree {ls : List (List En)} (h : malC ls = 0) : RightT (allE ls) := by
  obtain ⟨h1, -, h3⟩ := mal_zero h
  exact rightT_fit.2 ⟨all_fit (rights_fit (layersP_zero.1 h1).2), h3⟩
theorem home_of_wr {T : List En} {p : Bs} (h : wrS T p = 0) : homeC T p = 0 := by
  by_cases hh : homeC T p = 0
  · exact hh
  · rw [wrS, if_neg hh] at h; exact h
theorem home_of_mk {T : List En} {p : Bs} (h : mkS T p = 0) : homeC T p = 0 := by
  by_cases hh : homeC T p = 0
  · exact hh
  · rw [mkS, if_neg hh] at h; exact h
theorem wr_write {T : List En} {p : Bs} (h : writeC T p ≠ 2) : writeC T p = wrS T p := by
  unfold writeC wrS at *
  by_cases hh : homeC T p = 0
  · rw [if_pos hh] at h ⊢
    rw [if_pos hh]
    cases hs : findE T p with
    | some e => rfl
    | none =>
      rw [hs] at h
      simp only [] at h ⊢
      by_cases hl : 40 ≤ T.length
      · rw [if_pos hl] at h; exact absurd rfl h
      · rw [if_neg hl]
  · rw [if_neg hh, if_neg hh]
theorem mk_make {T : List En} {p : Bs} (h : makeC T p ≠ 2) : makeC T p = mkS T p := by
  unfold makeC mkS at *
  by_cases hh : homeC T p = 0
  · rw [if_pos hh] at h ⊢
    rw [if_pos hh]
    cases hs : findE T p with
    | some e => rfl
    | none =>
      rw [hs] at h
      simp only [] at h ⊢
      by_cases hl : 40 ≤ T.length
      · rw [if_pos hl] at h; exact absurd rfl h
      · rw [if_neg hl]; rfl
  · rw [if_neg hh, if_neg hh]
theorem wov_all {ls : List (List En)} {U : List En} {p : Bs} {zs : List Int} {rep : Int} {V : List En} (hm : malC (ls ++ [U]) = 0) (h : WovOf ls U p zs 0 rep V) : Right V ∧ (rep ≠ 2 → writeC (allE (ls ++ [U])) p ≠ 2 → rep = writeC (allE (ls ++ [U])) p ∧ malL (ls ++ [V]) = writeL (allE (ls ++ [U])) p zs) := by
  have hz : askL (ls ++ [U]) p = 0 := by
    by_cases hz : askL (ls ++ [U]) p = 0
    · exact hz
    · exact absurd (h.bad hz).1.symm hz
  have hfc : fileCode p zs = 0 := by
    by_cases hfc : fileCode p zs = 0
    · exact hfc
    · exact absurd (h.big hz hfc).1.symm hfc
  obtain ⟨ht, hU, hp, hT⟩ := parts_of hz
  have hF := (right_fit.1 hU).1
  have hTR := mal_tree hm
  have hlay := (ask_zero hz).1
  have hzl : zs.length ≤ 24 := by
    rw [fileCode, if_pos hp] at hfc
    by_cases hb : 24 < zs.length
    · rw [if_pos hb] at hfc; cases hfc
    · omega
  have he := fileE_right (zs := zs) hp hzl
  have hwv := wov_view hlay hp
  by_cases hw : wovR (ls ++ [U]) p = 0
  · obtain ⟨-, a2, a3⟩ := h.yes hz hfc hw
    rw [hwv] at hw
    have hh := home_of_wr hw
    have hd : ∀ u ∈ above (fileE p zs).path, ∀ x, findE U u = some x → dirK x.kind = true := dirs_ok ht hF hp (by rw [← hT]; exact hh)
    have hfw := fills_wrt hU he hd
    rw [← a2, ← a3] at hfw
    by_cases hl : 12 < (fillS U (fileE p zs)).length
    · obtain ⟨b1, b2⟩ := hfw.1 hl
      exact ⟨by rw [b2]; exact hU, fun h2 => absurd b1 h2⟩
    · obtain ⟨b1, b2⟩ := hfw.2 hl
      have hR := fill_right hU he hd (by omega)
      refine ⟨by rw [b2]; exact hR, fun _ hx => ?_⟩
      have hwc : writeC (allE (ls ++ [U])) p = 0 := by rw [wr_write hx]; exact hw
      have htree := wov_tree hz he rfl rfl hw (by omega)
      have hRT := right_write hTR hp he hwc
      refine ⟨by rw [b1, hwc], ?_⟩
      rw [b2, (mal_up hm hR (by rw [htree]; exact hRT.len)).2, htree, writeL, if_pos hwc]
  · obtain ⟨-, a2, a3⟩ := h.no hz hfc hw
    rw [a3]
    refine ⟨hU, fun _ hx => ?_⟩
    have hwc := wr_write hx
    refine ⟨by rw [a2, hwc, hwv], ?_⟩
    rw [(mal_zero hm).2.1, writeL, if_neg (by rw [hwc, ← hwv]; exact hw)]
theorem dirKd_F {U : List En} {p : Bs} {T t : List En} (ht : FitT t) (hU : Right U) (hp : faultP p = 0) (h : mkS (mergeE t U) p = 0) : (⟨p, dirKd U p, 0, []⟩ : En) = dirF U p := by
  have hF := (right_fit.1 hU).1
  have hn : findE (mergeE t U) p = none := by
    rw [mkS, if_pos (home_of_mk h)] at h
    cases hs : findE (mergeE t U) p with
    | none => rfl
    | some x => rw [hs] at h; simp at h
  rw [merge_find ht hF] at hn
  cases hu : findE U p with
  | none =>
    have hc : findCodeP U p ≠ 0 := fun hc => (findCode_iff hU hp).1 hc hu
    rw [dirKd, if_neg hc, dirF, hu]
  | some x =>
    have hc : findCodeP U p = 0 := (findCode_iff hU hp).2 (by rw [hu]; simp)
    rw [seeT_some hu] at hn
    by_cases hk : x.kind = 3
    · rw [dirKd, if_pos hc, dirF, hu]; simp [hk]
    · rw [if_neg hk] at hn; cases hn
theorem mov_all {ls : List (List En)} {U : List En} {p : Bs} {rep : Int} {V : List En} (hm : malC (ls ++ [U]) = 0) (h : MovOf ls U p 0 rep V) : Right V ∧ (rep ≠ 2 → makeC (allE (ls ++ [U])) p ≠ 2 → rep = makeC (allE (ls ++ [U])) p ∧ malL (ls ++ [V]) = makeL (allE (ls ++ [U])) p) := by
  have hz : askL (ls ++ [U]) p = 0 := by
    by_cases hz : askL (ls ++ [U]) p = 0
    · exact hz
    · exact absurd (h.bad hz).1.symm hz
  obtain ⟨ht, hU, hp, hT⟩ := parts_of hz
  have hF := (right_fit.1 hU).1
  have hTR := mal_tree hm
  have hlay := (ask_zero hz).1
  have hwv := mov_view hlay hp
  by_cases hw : movR (ls ++ [U]) p = 0
  · obtain ⟨-, a2, a3⟩ := h.yes hz hw
    rw [hwv] at hw
    have hh := home_of_mk hw
    rw [dirKd_F (T := []) ht hU hp (by rw [← hT]; exact hw)] at a2 a3
    obtain ⟨he, hep, -, -⟩ := dirF_ent (U := U) hp
    have hd : ∀ u ∈ above (dirF U p).path, ∀ x, findE U u = some x → dirK x.kind = true := by rw [hep]; exact dirs_ok ht hF hp (by rw [← hT]; exact hh)
    have hfw := fills_wrt hU he hd
    rw [← a2, ← a3] at hfw
    by_cases hl : 12 < (fillS U (dirF U p)).length
    · obtain ⟨b1, b2⟩ := hfw.1 hl
      exact ⟨by rw [b2]; exact hU, fun h2 => absurd b1 h2⟩
    · obtain ⟨b1, b2⟩ := hfw.2 hl
      have hR := fill_right hU he hd (by omega)
      refine ⟨by rw [b2]; exact hR, fun _ hx => ?_⟩
      have hwc : makeC (allE (ls ++ [U])) p = 0 := by rw [mk_make hx]; exact hw
      have htree := mov_tree hz hw (by omega)
      have hRT := right_make hTR hp hwc
      refine ⟨by rw [b1, hwc], ?_⟩
      rw [b2, (mal_up hm hR (by rw [htree]; exact hRT.len)).2, htree, makeL, if_pos hwc]
  · obtain ⟨-, a2, a3⟩ := h.no hz hw
    rw [a3]
    refine ⟨hU, fun _ hx => ?_⟩
    have hwc := mk_make hx
    refine ⟨by rw [a2, hwc, hwv], ?_⟩
    rw [(mal_zero hm).2.1, makeL, if_neg (by rw [hwc, ← hwv]; exact hw)]
theorem rov_all {ls : List (List En)} {U : List En} {p : Bs} {rep : Int} {V : List En} (hm : malC (ls ++ [U]) = 0) (h : RovOf ls U p 0 rep V) : Right V ∧ (rep ≠ 2 → rep = removeC (allE (ls ++ [U])) p ∧ malL (ls ++ [V]) = removeL (allE (ls ++ [U])) p) := by
  have hz : askL (ls ++ [U]) p = 0 := by
    by_cases hz : askL (ls ++ [U]) p = 0
    · exact hz
    · exact absurd (h.bad hz).1.symm hz
  obtain ⟨ht, hU, hp, hT⟩ := parts_of hz
  have hF := (right_fit.1 hU).1
  have hTR := mal_tree hm
  have hlay := (ask_zero hz).1
  have hwv : rovR (ls ++ [U]) p = removeC (allE (ls ++ [U])) p := (rov_view hlay hp).trans (rm_remove (rightT_fit.1 hTR).1 hp)
  have hre : restP U p = restE U p true := restP_eq (fun x hx => entFault_zero (hU.ent x hx)) hp
  by_cases hw : rovR (ls ++ [U]) p = 0
  · have hw2 := hw
    rw [hwv] at hw2
    have hoff := right_remove hTR hw2
    have hlr : layersP (ls ++ [restE U p true]) = 0 := layersP_zero.2 ⟨by simpa using (layersP_zero.1 hlay).1, fun es he => by
      rcases List.mem_append.1 he with he | he
      · exact (layersP_zero.1 hlay).2 es (List.mem_append_left _ he)
      · simp at he; subst he; exact right_restE hU hp⟩
    have hpl := (look_all (askL_of hlr hp)).1
    by_cases hg : findE (allE (ls ++ [restE U p true])) p = none
    · have hg2 : plcC (ls ++ [restP U p]) p ≠ 0 := by rw [hre, hpl, hg]; decide
      obtain ⟨-, a2, a3⟩ := h.gone hz hw hg2
      obtain ⟨hR, htree⟩ := rov_gone hz hTR hw2 hg
      rw [a3, hre]
      refine ⟨hR, fun _ => ⟨by rw [a2, hw2], ?_⟩⟩
      rw [(mal_up hm hR (by rw [htree]; exact hoff.len)).2, htree, removeL, if_pos hw2]
    · have hg2 : plcC (ls ++ [restP U p]) p = 0 := by
        rw [hre, hpl]
        cases hs : findE (allE (ls ++ [restE U p true])) p with
        | none => exact absurd hs hg
        | some x => rfl
      obtain ⟨-, a2, a3⟩ := h.white hz hw hg2
      have hx : ∃ x, findE (allE (ls ++ [U])) p = some x := by
        cases hs : findE (allE (ls ++ [U])) p with
        | none => rw [removeC, hs] at hw2; cases hw2
        | some x => exact ⟨x, rfl⟩
      obtain ⟨x, hx⟩ := hx
      have hh : homeC (mergeE (allE ls) U) p = 0 := by rw [← hT]; exact home_seen (rightT_fit.1 hTR).1 hx
      have hfw := fills_wrt hU (whiteQ_ent hp) (dirs_ok ht hF hp hh)
      have a2' : rep = wrtR U (whiteQ p) := a2
      have a3' : V = wrtL U (whiteQ p) := a3
      rw [← a2', ← a3'] at hfw
      by_cases hl : 12 < (fillS U (whiteQ p)).length
      · obtain ⟨b1, b2⟩ := hfw.1 hl
        exact ⟨by rw [b2]; exact hU, fun h2 => absurd b1 h2⟩
      · obtain ⟨b1, b2⟩ := hfw.2 hl
        obtain ⟨hR, htree⟩ := rov_white hz hTR hw2 (by omega)
        rw [b2]
        refine ⟨hR, fun _ => ⟨by rw [b1, hw2], ?_⟩⟩
        rw [(mal_up hm hR (by rw [htree]; exact hoff.len)).2, htree, removeL, if_pos hw2]
  · obtain ⟨-, a2, a3⟩ := h.no hz hw
    rw [a3]
    refine ⟨hU, fun _ => ⟨by rw [a2, hwv], ?_⟩⟩
    rw [(mal_zero hm).2.1, removeL, if_neg (by rw [← hwv]; exact hw)]
theorem wov_same {ls : List (List En)} {U : List En} {p : Bs} {zs : List Int} {q rep q2 rep2 : Int} {V V2 : List En} (h : WovOf ls U p zs q rep V) (h2 : FaceM (wovM (ls ++ [U]) p zs) (WrS (allE (ls ++ [U])) U p (fileE p zs)) q2 rep2 V2) : q = q2 ∧ rep = rep2 ∧ V = V2 := by
  by_cases hz : askL (ls ++ [U]) p = 0
  · obtain ⟨ht, hU, hp, hT⟩ := parts_of hz
    have hF := (right_fit.1 hU).1
    have hfm : wovM (ls ++ [U]) p zs = fileCode p zs := by rw [wovM, if_pos hz, fileCode, if_pos hp]
    rw [hfm] at h2
    by_cases hfc : fileCode p zs = 0
    · obtain ⟨g1, g2⟩ := h2.good hfc
      have hzl : zs.length ≤ 24 := by
        rw [fileCode, if_pos hp] at hfc
        by_cases hb : 24 < zs.length
        · rw [if_pos hb] at hfc; cases hfc
        · omega
      have hwv := wov_view (ask_zero hz).1 hp
      by_cases hw : wovR (ls ++ [U]) p = 0
      · obtain ⟨a1, a2, a3⟩ := h.yes hz hfc hw
        rw [hwv] at hw
        have hfw := fills_wrt hU (fileE_right hp hzl) (dirs_ok ht hF hp (by rw [← hT]; exact home_of_wr hw))
        obtain ⟨b1, b2⟩ := hfw.one (g2.yes hw)
        exact ⟨a1.trans g1.symm, a2.trans b1, a3.trans b2⟩
      · obtain ⟨a1, a2, a3⟩ := h.no hz hfc hw
        obtain ⟨b1, b2⟩ := g2.no (by rw [← hwv]; exact hw)
        exact ⟨a1.trans g1.symm, by rw [a2, b1, hwv], a3.trans b2.symm⟩
    · obtain ⟨a1, a2, a3⟩ := h.big hz hfc
      obtain ⟨b1, b2, b3⟩ := h2.bad hfc
      exact ⟨a1.trans b1.symm, a2.trans b2.symm, a3.trans b3.symm⟩
  · obtain ⟨a1, a2, a3⟩ := h.bad hz
    have hfm : wovM (ls ++ [U]) p zs = askL (ls ++ [U]) p := by rw [wovM, if_neg hz]
    rw [hfm] at h2
    obtain ⟨b1, b2, b3⟩ := h2.bad hz
    exact ⟨a1.trans b1.symm, a2.trans b2.symm, a3.trans b3.symm⟩
end Go.Proofs.YtebgfaohhhgdpaaGreat

namespace Go.Proofs.YtebgfaohhhgdpaaGreat
set_option linter.unusedVariables false

theorem fills_right {O U : List En} {e : En} {rep : Int} {V : List En} (hO : Right O) (hU : Right U) (he : entFault e = 0) (hd : ∀ u ∈ above e.path, ∀ x, findE U u = some x → dirK x.kind = true) (h : FillsO O U e rep V) : Right V := by
  by_cases hl : 12 < (fillS U e).length
  · rw [(h.1 hl).2]; exact hO
  · rw [(h.2 hl).2]; exact fill_right hU he hd (by omega)
theorem lows_fit {ls : List (List En)} {U : List En} (hR : ∀ es ∈ ls ++ [U], Right es) : FitT (allE ls) ∧ Right U := ⟨all_fit (rights_fit fun es he => hR es (List.mem_append_left _ he)), hR U (by simp)⟩
theorem wr_right {ls : List (List En)} {U : List En} {p : Bs} {zs : List Int} {rep : Int} {V : List En} (hR : ∀ es ∈ ls ++ [U], Right es) (hp : faultP p = 0) (hzl : zs.length ≤ 24) (h : WrS (allE (ls ++ [U])) U p (fileE p zs) rep V) : Right V := by
  obtain ⟨ht, hU⟩ := lows_fit hR
  by_cases hw : wrS (allE (ls ++ [U])) p = 0
  · exact fills_right hU hU (fileE_right hp hzl) (dirs_ok ht (right_fit.1 hU).1 hp (by rw [← allE_snoc]; exact home_of_wr hw)) (h.yes hw)
  · rw [(h.no hw).2]; exact hU
theorem mk_right {ls : List (List En)} {U : List En} {p : Bs} {rep : Int} {V : List En} (hR : ∀ es ∈ ls ++ [U], Right es) (hp : faultP p = 0) (h : MkS (allE (ls ++ [U])) U p rep V) : Right V := by
  obtain ⟨ht, hU⟩ := lows_fit hR
  obtain ⟨he, hep, -, -⟩ := dirF_ent (U := U) hp
  by_cases hw : mkS (allE (ls ++ [U])) p = 0
  · exact fills_right hU hU he (by rw [hep]; exact dirs_ok ht (right_fit.1 hU).1 hp (by rw [← allE_snoc]; exact home_of_mk hw)) (h.yes hw)
  · rw [(h.no hw).2]; exact hU
theorem rm_right {ls : List (List En)} {U : List En} {p : Bs} {rep : Int} {V : List En} (hR : ∀ es ∈ ls ++ [U], Right es) (hp : faultP p = 0) (h : RmS ls (allE (ls ++ [U])) U p rep V) : Right V := by
  obtain ⟨ht, hU⟩ := lows_fit hR
  have hr := right_restE hU hp
  by_cases hw : rmS (allE (ls ++ [U])) p = 0
  · cases hs : findE (allE (ls ++ [restE U p true])) p with
    | none => rw [(h.gone hw hs).2]; exact hr
    | some x =>
      have hT : FitT (allE (ls ++ [restE U p true])) := by rw [allE_snoc]; exact merge_fit ht (right_fit.1 hr).1
      have hh := home_seen hT hs
      rw [allE_snoc] at hh
      exact fills_right hU hr (whiteQ_ent hp) (dirs_ok ht (right_fit.1 hr).1 hp hh) (h.white hw (by rw [hs]; simp))
  · rw [(h.no hw).2]; exact hU
end Go.Proofs.YtebgfaohhhgdpaaGreat

