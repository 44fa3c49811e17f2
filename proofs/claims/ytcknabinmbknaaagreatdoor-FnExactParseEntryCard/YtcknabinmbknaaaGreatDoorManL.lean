/-
  Manifests as a name and a list of digests: faults, text, and reading. Nothing of a program.
-/
import Derived.Test.YtcknabinmbknaaaGreatDoorTxtL
namespace Go.Proofs.YtcknabinmbknaaaGreatDoor
set_option linter.unusedVariables false

def imageW : Bs := [105, 109, 97, 103, 101]
/-- What the fault of a manifest is. -/
def manFault (n : Bs) (ds : List Int) : Int := if plain n then (if 4 < n.length ∨ ds.length < 1 ∨ 3 < ds.length then 2 else if ds.all isDig then 0 else 3) else 5
theorem manFault_name {n : Bs} {ds : List Int} (h : plain n = false) : manFault n ds = 5 := by simp [manFault, h]
theorem manFault_many {n : Bs} {ds : List Int} (h : plain n = true) (h1 : 4 < n.length ∨ ds.length < 1 ∨ 3 < ds.length) : manFault n ds = 2 := by rw [manFault, if_pos h, if_pos h1]
theorem manFault_digs {n : Bs} {ds : List Int} (h : plain n = true) (h1 : ¬ (4 < n.length ∨ ds.length < 1 ∨ 3 < ds.length)) : manFault n ds = if ds.all isDig then 0 else 3 := by rw [manFault, if_pos h, if_neg h1]
structure FitM (n : Bs) (ds : List Int) : Prop where
  name : plain n = true
  len : n.length ≤ 4
  some : ds ≠ []
  many : ds.length ≤ 3
  digs : ∀ c ∈ ds, 0 ≤ c ∧ c ≤ 4294967295
theorem manFault_fit {n : Bs} {ds : List Int} : manFault n ds = 0 ↔ FitM n ds := by
  constructor
  · intro h
    by_cases hp : plain n = true
    · by_cases h1 : 4 < n.length ∨ ds.length < 1 ∨ 3 < ds.length
      · rw [manFault_many hp h1] at h; cases h
      · rw [manFault_digs hp h1] at h
        by_cases h4 : ds.all isDig = true
        · refine ⟨hp, by omega, fun e => h1 (by simp [e]), by omega, fun c hc => ?_⟩
          have := List.all_eq_true.1 h4 c hc
          simpa [isDig] using this
        · rw [if_neg h4] at h; cases h
    · rw [manFault_name (by simpa using hp)] at h; cases h
  · intro ⟨hp, hl, hs, hm, hd⟩
    have hz : ds.length ≠ 0 := fun e => hs (List.length_eq_zero_iff.1 e)
    rw [manFault_digs hp (by omega), if_pos]
    apply List.all_eq_true.2
    intro c hc
    simpa [isDig] using hd c hc
/-- The words of a manifest's text. -/
def wordsM (n : Bs) (ds : List Int) : List Bs := imageW :: n :: ds.map hexB
/-- What PackManifest tells. -/
def imageB (n : Bs) (ds : List Int) : Bs := joinC 32 (wordsM n ds) ++ [10]
theorem wordsM_chars {n : Bs} {ds : List Int} (h : plain n = true) : ∀ p ∈ wordsM n ds, (32 : UInt8) ∉ p := by
  intro p hp
  simp only [wordsM, List.mem_cons, List.mem_map] at hp
  rcases hp with rfl | rfl | ⟨z, -, rfl⟩
  · decide
  · exact fun hc => (plain_chars h _ hc).2.1 rfl
  · exact fun hc => (hexB_chars z _ hc).2.1 rfl
theorem cut_image {n : Bs} {ds : List Int} (h : plain n = true) : cutC 32 (joinC 32 (wordsM n ds)) = wordsM n ds := cut_joinC (by simp [wordsM]) (wordsM_chars h)
def packCode (n : Bs) (ds : List Int) : Int := manFault n ds
def packText (n : Bs) (ds : List Int) : Bs := if manFault n ds = 0 then imageB n ds else []

/-- What the model reads: the words but for the line feed. -/
def readM (l : Bs) : Option (Bs × List Int) :=
  match cutC 32 l with
  | a :: n :: r => if a = imageW then (match r.mapM hexW with | some ds => if manFault n ds = 0 then some (n, ds) else none | none => none) else none
  | _ => none
/-- What ParseManifest answers. -/
def parseM (t : Bs) : Option (Bs × List Int) := if t.getLast? = some 10 then readM t.dropLast else none
theorem imageB_last (n : Bs) (ds : List Int) : (imageB n ds).getLast? = some 10 ∧ (imageB n ds).dropLast = joinC 32 (wordsM n ds) := by simp [imageB]
theorem parseM_of {n : Bs} {ds : List Int} (h : FitM n ds) : parseM (imageB n ds) = some (n, ds) := by
  unfold parseM
  rw [if_pos (imageB_last n ds).1, (imageB_last n ds).2]
  unfold readM
  rw [cut_image h.name]
  simp only [wordsM, if_true, hexW_all h.digs, if_pos (manFault_fit.2 h)]
theorem hv_back : ∀ n : Fin 256, ∀ v : Fin 16, hv (n.val : Int) = some (v.val : Int) → UInt8.ofNat (hexL.getD v.val 0).toNat = UInt8.ofNat n.val := by decide +kernel
theorem hv_char {c : UInt8} {v : Int} (h : hv (c.toNat : Int) = some v) : 0 ≤ v ∧ v < 16 ∧ UInt8.ofNat (hexL.getD v.toNat 0).toNat = c := by
  have hr : 0 ≤ v ∧ v < 16 := by
    rcases hv_cases (c.toNat : Int) (by omega) with ⟨d, hd, h0, h1⟩ | hn
    · rw [hd] at h; cases h; omega
    · rw [hn] at h; cases h
  refine ⟨hr.1, hr.2, ?_⟩
  have := hv_back ⟨c.toNat, c.toNat_lt⟩ ⟨v.toNat, by omega⟩ (by simp only; rw [h]; congr 1; omega)
  simpa using this
theorem pv_cons_none {l : Bs} (a : Option Int) (h : a = none) : l.foldl pvStep a = none := by rw [h]; exact pv_none l
theorem pvStep_some {a : Option Int} {c : UInt8} {x : Int} (h : pvStep a c = some x) : ∃ y v, a = some y ∧ hv (c.toNat : Int) = some v ∧ x = y * 16 + v := by
  cases a with
  | none => simp [pvStep] at h
  | some y =>
    simp only [pvStep, Option.bind_some] at h
    cases hv' : hv (c.toNat : Int) with
    | none => rw [hv'] at h; cases h
    | some v => rw [hv'] at h; simp at h; exact ⟨y, v, rfl, rfl, h.symm⟩
theorem hexW_pv {w : Bs} {d : Int} (h : hexW w = some d) : hexB d = w ∧ 0 ≤ d ∧ d ≤ 4294967295 := by
  unfold hexW at h
  by_cases hl : w.length = 8
  · rw [if_pos hl] at h
    match w, hl with
    | [c0, c1, c2, c3, c4, c5, c6, c7], _ =>
      simp only [pv, List.foldl_cons, List.foldl_nil] at h
      obtain ⟨y7, v7, h7, k7, e7⟩ := pvStep_some h
      obtain ⟨y6, v6, h6, k6, e6⟩ := pvStep_some h7
      obtain ⟨y5, v5, h5, k5, e5⟩ := pvStep_some h6
      obtain ⟨y4, v4, h4, k4, e4⟩ := pvStep_some h5
      obtain ⟨y3, v3, h3, k3, e3⟩ := pvStep_some h4
      obtain ⟨y2, v2, h2, k2, e2⟩ := pvStep_some h3
      obtain ⟨y1, v1, h1, k1, e1⟩ := pvStep_some h2
      obtain ⟨y0, v0, h0, k0, e0⟩ := pvStep_some h1
      cases h0
      obtain ⟨a0, b0, q0⟩ := hv_char k0
      obtain ⟨a1, b1, q1⟩ := hv_char k1
      obtain ⟨a2, b2, q2⟩ := hv_char k2
      obtain ⟨a3, b3, q3⟩ := hv_char k3
      obtain ⟨a4, b4, q4⟩ := hv_char k4
      obtain ⟨a5, b5, q5⟩ := hv_char k5
      obtain ⟨a6, b6, q6⟩ := hv_char k6
      obtain ⟨a7, b7, q7⟩ := hv_char k7
      have d0 : 0 ≤ d := by omega
      have d1 : d ≤ 4294967295 := by omega
      refine ⟨?_, d0, d1⟩
      have e : hexB d = (hexList d).map fun z => UInt8.ofNat z.toNat := rfl
      have e' : hexList d = [hexL.getD (dg d 0).toNat 0, hexL.getD (dg d 1).toNat 0, hexL.getD (dg d 2).toNat 0, hexL.getD (dg d 3).toNat 0, hexL.getD (dg d 4).toNat 0, hexL.getD (dg d 5).toNat 0, hexL.getD (dg d 6).toNat 0, hexL.getD (dg d 7).toNat 0] := rfl
      have g0 : dg d 0 = v0 := by rw [dg0 d d0 d1]; omega
      have g1 : dg d 1 = v1 := by rw [dg1 d d0 d1]; omega
      have g2 : dg d 2 = v2 := by rw [dg2 d d0 d1]; omega
      have g3 : dg d 3 = v3 := by rw [dg3 d d0 d1]; omega
      have g4 : dg d 4 = v4 := by rw [dg4 d d0 d1]; omega
      have g5 : dg d 5 = v5 := by rw [dg5 d d0 d1]; omega
      have g6 : dg d 6 = v6 := by rw [dg6 d d0 d1]; omega
      have g7 : dg d 7 = v7 := by rw [dg7 d d0 d1]; omega
      rw [e, e', g0, g1, g2, g3, g4, g5, g6, g7]
      simp only [List.map_cons, List.map_nil, q0, q1, q2, q3, q4, q5, q6, q7]
  · rw [if_neg hl] at h; cases h
theorem hexW_back : ∀ {ws : List Bs} {ds : List Int}, ws.mapM hexW = some ds → ds.map hexB = ws ∧ ∀ c ∈ ds, 0 ≤ c ∧ c ≤ 4294967295
  | [], ds, h => by simp at h; subst h; simp
  | w :: ws, ds, h => by
    rw [List.mapM_cons] at h
    cases hd : hexW w with
    | none => rw [hd] at h; simp at h
    | some d =>
      rw [hd] at h
      cases hr : ws.mapM hexW with
      | none => rw [hr] at h; simp at h
      | some r =>
        rw [hr] at h
        simp at h
        subst h
        obtain ⟨i1, i2⟩ := hexW_back hr
        obtain ⟨j1, j2⟩ := hexW_pv hd
        exact ⟨by rw [List.map_cons, i1, j1], fun c hc => (List.mem_cons.1 hc).elim (fun e => e ▸ j2) (i2 c)⟩
theorem parseM_iff {t : Bs} {n : Bs} {ds : List Int} : parseM t = some (n, ds) ↔ FitM n ds ∧ imageB n ds = t := by
  constructor
  · intro h
    unfold parseM at h
    by_cases hl : t.getLast? = some 10
    · rw [if_pos hl] at h
      have ht : t = t.dropLast ++ [10] := by
        rw [List.getLast?_eq_some_iff] at hl
        obtain ⟨ys, rfl⟩ := hl
        simp
      unfold readM at h
      split at h
      · rename_i a n' r hc
        by_cases ha : a = imageW
        · rw [if_pos ha] at h
          split at h
          · rename_i ds' hm
            by_cases hf : manFault n' ds' = 0
            · rw [if_pos hf] at h
              cases h
              refine ⟨manFault_fit.1 hf, ?_⟩
              rw [ht]
              unfold imageB wordsM
              rw [(hexW_back hm).1, ← ha, ← hc, joinC_cut]
            · rw [if_neg hf] at h; cases h
          · cases h
        · rw [if_neg ha] at h; cases h
      · cases h
    · rw [if_neg hl] at h; cases h
  · rintro ⟨h, rfl⟩
    exact parseM_of h
theorem parseM_none {t : Bs} (h : ∀ n ds, FitM n ds → imageB n ds ≠ t) : parseM t = none := by
  cases e : parseM t with
  | none => rfl
  | some x => obtain ⟨n, ds⟩ := x; exact absurd (parseM_iff.1 e).2 (h n ds (parseM_iff.1 e).1)

/-- The text but for a line feed at its end. -/
def trimL (t : Bs) : Bs := if t.getLast? = some 10 then t.dropLast else t
/-- What the program's reader reads, ahead of the look whether it is told so. -/
def readP (t : Bs) : Option (Bs × List Int) :=
  match cutC 32 (trimL t) with
  | _ :: n :: d :: r => ((d :: r).mapM hexW).map fun ds => (n, ds)
  | _ => none
theorem readP_of {n : Bs} {ds : List Int} (h : FitM n ds) : readP (imageB n ds) = some (n, ds) := by
  unfold readP trimL
  rw [if_pos (imageB_last n ds).1, (imageB_last n ds).2, cut_image h.name]
  obtain ⟨d, r, hd⟩ : ∃ d r, ds = d :: r := by
    cases ds with
    | nil => exact absurd rfl h.some
    | cons d r => exact ⟨d, r, rfl⟩
  simp only [wordsM, hd, List.map_cons]
  have := hexW_all h.digs
  rw [hd, List.map_cons] at this
  rw [this]
  rfl
theorem parse_read {t : Bs} {n : Bs} {ds : List Int} (h : readP t = some (n, ds)) (hf : manFault n ds = 0) (ht : imageB n ds = t) : parseM t = some (n, ds) := parseM_iff.2 ⟨manFault_fit.1 hf, ht⟩
theorem parse_not {t : Bs} {n : Bs} {ds : List Int} (h : readP t = some (n, ds)) (hf : manFault n ds ≠ 0 ∨ imageB n ds ≠ t) : parseM t = none := by
  apply parseM_none
  rintro n' ds' hF rfl
  rw [readP_of hF] at h
  cases h
  rcases hf with h | h
  · exact h (manFault_fit.2 hF)
  · exact h rfl
theorem parse_unread {t : Bs} (h : readP t = none) : parseM t = none := by
  apply parseM_none
  rintro n' ds' hF rfl
  rw [readP_of hF] at h
  cases h
end Go.Proofs.YtcknabinmbknaaaGreatDoor
