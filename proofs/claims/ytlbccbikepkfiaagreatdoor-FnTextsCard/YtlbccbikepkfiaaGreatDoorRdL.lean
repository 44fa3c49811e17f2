/-
  The program's readLayer.
-/
import Derived.Test.YtlbccbikepkfiaaGreatDoorJ2
import Derived.Test.YtlbccbikepkfiaaGreatDoorParK
namespace Go.Proofs.YtlbccbikepkfiaaGreatDoor
open Go.RowKit
set_option linter.unusedVariables false
set_option maxRecDepth 100000

/-- What readLayer answers. -/
def ResY (o : Option (List En)) (u : TypeId) (vp : Value) (w : World) (r : Ending) (w' : World) : Prop :=
  match o with
  | none => r = Dies u vp ∧ Below w.heap.size w w'
  | some es => (∃ av cv, r = .returned (.slice av es.length cv) ∧ GE w.heap.size w'.heap.size w' (.slice av es.length cv) es) ∧ Below w.heap.size w w'
/-- How much is left of the text that stands in a cell. -/
def restN (w : World) (b : Nat) : Nat := match w.cell? ⟨b, 0, none⟩ with | some (.string s) => s.size | _ => 0
theorem restN_box {w : World} {b : Nat} {l : Bs} {v : Value} (h : Box w b (.string (str l)) v) : restN w b = l.length := by unfold restN; rw [h.1.1]; exact str_size l
theorem mapM_go {ls : List Bs} {a : Bs} {e : En} (h : readE a = some e) : (a :: ls).mapM readE = (ls.mapM readE).map (e :: ·) := by
  rw [List.mapM_cons, h]
  cases ls.mapM readE <;> rfl
theorem mapM_stop {ls : List Bs} {a : Bs} (h : readE a = none) : (a :: ls).mapM readE = none := by rw [List.mapM_cons, h]; rfl
theorem map_join (o : Option (List En)) (es : List En) (e : En) : (o.map (e :: ·)).map (es ++ ·) = o.map ((es ++ [e]) ++ ·) := by cases o <;> simp
theorem line_first {ps : List Bs} {a : Bs} {r : List Bs} (h : ps = a :: r) (hn : joinC 10 ps ≠ []) : linesP ps = a :: linesP (if r = [] then [[]] else r) := by
  subst h
  by_cases hr : r = []
  · subst hr
    rw [if_pos rfl, linesP_end]
    exact linesP_one (by simpa [joinC] using hn)
  · rw [if_neg hr]
    exact linesP_more hr

set_option maxHeartbeats 6400000 in
theorem readLayer_any (t : Bs) (u : TypeId) (vp : Value) (w : World) (hl : t.length ≤ 600) (hg : Gl w u vp) : Calls Tryz.prog 21 #[.string (str t)] w (ResY (readL t) u vp w) := by
  obtain ⟨i1, ki, kz0, kz1, kz2⟩ := info_parts Tryz.infoEn
  have HGB : Hid (∀ w' : World, Below w.heap.size w w' → Gl w' u vp) := hide (fun w' hb => hg.below hb)
  have X0 := hide (Box.new w (.string (str t)) (.bool true) 80)
  have B0 := hide (below_alloc w (.cells #[.string (str t), .bool true] 80))
  have hlen0 := linesP_len (cutC 10 t)
  have hlen1 := cutC_length (m := 10) t
  have HJ0 := hide (joinC_cut 10 t)
  have HC0 := hide (cutC_ne 10 t)
  clear hg
  go_enter Tryz.func21, Tryz.ntmps21
  go_wp2_with fail
  go_loopw [3] (fun v wr => ∃ (ps : List Bs) (es : List En) (more : Bool) (lv : Option Addr) (lc : Nat), v = .slice lv es.length lc ∧ Hid (ps ≠ []) ∧ Hid (cutC 10 (joinC 10 ps) = ps) ∧ (joinC 10 ps).length ≤ t.length ∧ Hid (Box wr w.heap.size (.string (str (joinC 10 ps))) (.bool more)) ∧ Hid (joinC 10 ps ≠ [] → more = true) ∧ Hid (readL t = ((linesP ps).mapM readE).map (es ++ ·)) ∧ es.length + (linesP ps).length ≤ 601 ∧ Hid (GE (w.heap.size + 1) wr.heap.size wr v es) ∧ Hid (Below w.heap.size w wr)) (fun _ wr => restN wr w.heap.size)
  case atStart =>
    refine ⟨cutC 10 t, [], true, none, 0, rfl, HC0, ?_, ?_, ?_, hide (fun _ => rfl), ?_, by simp; omega, hide (GE.nil _ _ _), B0⟩
    · rw [HJ0.out]; exact hide rfl
    · rw [HJ0.out]; exact Nat.le_refl _
    · rw [HJ0.out]; exact X0
    · refine hide ?_
      unfold readL
      cases (linesP (cutC 10 t)).mapM readE <;> simp
  case round =>
    obtain ⟨ps, es, more, lv, lc, rfl, HPN, HPC, hpl, HX, HMo, HRe, hcnt, HG, HW⟩ := hrel
    have hwb : w.heap.size < wr.heap.size := HX.out.1.lt
    by_cases hne : joinC 10 ps = []
    · have HE : Hid (readL t = some es) := hide (by
        have h1 := HRe.out
        have h2 : ps = [[]] := by have := HPC.out; rw [hne] at this; simpa [cutC] using this.symm
        rw [h2, linesP_end] at h1
        simpa using h1)
      obtain ⟨⟨t0, t1⟩, t2, t3⟩ := HX.out
      rw [hne] at t0
      have hs0 : ((str ([] : Bs)).toList == []) = true := by rw [str_toList]; rfl
      have hs1 : ((str ([] : Bs)).toList != []) = false := by rw [str_toList]; rfl
      clear HX HMo HRe HPN HPC hne hcnt
      go_wp2_with fail
      go_ret
      rw [HE.out]
      exact ⟨⟨lv, lc, rfl, HG.out.mono (by omega)⟩, HW.out⟩
    · obtain ⟨a, r, hpr⟩ : ∃ a r, ps = a :: r := by
        cases hq : ps with
        | nil => exact absurd hq HPN.out
        | cons a r => exact ⟨a, r, rfl⟩
      have hmt := HMo.out hne
      subst hmt
      have HLF := hide (line_first hpr hne)
      have hs0 : ((str (joinC 10 ps)).toList == []) = false := by rw [str_toList]; simp [hne]
      have hs1 : ((str (joinC 10 ps)).toList != []) = true := by rw [str_toList]; simp [hne]
      have HN := hide (next_yes 10 w.heap.size (joinC 10 ps) a r wr HX.out (by rw [HPC.out, hpr]) (by omega))
      have hal : a.length ≤ 600 := by
        have := cutC_each (m := 10) (joinC 10 ps) a (by rw [HPC.out, hpr]; simp)
        omega
      have HPR := hide hpr
      have hrl : r ≠ [] → cutC 10 (joinC 10 r) = r ∧ (joinC 10 r).length < (joinC 10 ps).length := fun hr => by
        obtain ⟨h1, h2, h3⟩ := cut_more (m := 10) (l := joinC 10 ps) (a := a) (r := r) (by rw [HPC.out, hpr]) hr
        refine ⟨h3, ?_⟩
        rw [h1]
        simp only [List.length_append, List.length_cons]
        omega
      have HRl := hide hrl
      have hjl : 0 < (joinC 10 ps).length := List.length_pos_iff.2 hne
      obtain ⟨⟨t0, t1⟩, t2, t3⟩ := HX.out
      have HRS := hide (restN_box HX.out)
      clear hrl hpr HMo hne
      go_wp2_with fail
      refine HN.out.mono ?_
      rintro r1 w1 ⟨rfl, x1, k1, z1⟩
      have X1 := hide x1
      have B1 := hide (HW.out.trans (k1.below (B := w.heap.size) (by omega) (fun b hb e => by omega)))
      have G1 := hide (HG.out.kept k1 (fun b h1 h2 e => by omega))
      have hz1 : w1.heap.size = wr.heap.size := z1
      clear x1 k1 z1 t0 t1 t2 t3 HN
      cases hre : readE a with
      | none =>
        have HE : Hid (readL t = none) := hide (by rw [HRe.out, HLF.out, mapM_stop hre]; rfl)
        have HRE := hide (readEntry_any a u vp w1 (by omega) (HGB.out _ B1.out))
        rw [hre] at HRE
        clear hre
        go_wp2_with fail
        refine HRE.out.mono ?_
        rintro r2 w2 ⟨rfl, hb2⟩
        have hY : ResY (readL t) u vp w (Dies u vp) w2 := by rw [HE.out]; exact ⟨rfl, below_next B1.out hb2⟩
        exact ⟨rfl, hY⟩
      | some e =>
        have HE : Hid (readL t = ((linesP (if r = [] then [[]] else r)).mapM readE).map ((es ++ [e]) ++ ·)) := hide (by rw [HRe.out, HLF.out, mapM_go hre, map_join])
        have HRE := hide (readEntry_any a u vp w1 (by omega) (HGB.out _ B1.out))
        rw [hre] at HRE
        have hcl : (linesP ps).length = (linesP (if r = [] then [[]] else r)).length + 1 := by rw [HLF.out]; rfl
        have hee := readE_len hre
        clear hre
        go_wp2_with fail
        refine HRE.out.mono ?_
        rintro r2 w2 ⟨⟨av, cv, rfl, hO⟩, hb2⟩
        have A2 := hide hb2
        have O2 := hide hO
        have X2 := hide (X1.out.below A2.out)
        have B2 := hide (below_next B1.out A2.out)
        obtain ⟨rs, g1, g2, g3, g4, g5, g6⟩ := G1.out
        have E1 := hide g1
        have E2 := hide g2
        have E3 := hide g3
        have E4 := hide g4
        have E2' := hide (ownsRow_below g2 hb2)
        have hs2 := hb2.size
        have hsA := A2.out.size
        clear g1 g2 g3 g4 g5 g6 hO hb2 G1
        have hm1 : es.length + 1 ≤ maxLen := by unfold maxLen; omega
        have hm1' : (es.length + 1) * 56 ≤ 140737488355328 := by omega
        go_wp2_with (at_builtin; refine wpList_append_put rfl (.tmp 10) (.tmp 13) 25 rfl (w.heap.size + 1) 39 i1 (.agg #[.string ⟨#[]⟩, .int .i64 0, .int .i64 0, .slice none 0 0]) 4 56 Tryz.underlying25 ki kz0 kz1 kz2 rfl (by decide) _ _ _ rfl E2'.out _ rfl rfl rfl (by intro u hu; simp at hu; rcases hu with rfl | rfl | rfl | rfl <;> rfl) hm1 hm1' (by omega) ?_; intro av3 cv3 w3 hown2 hkept; have O3 := hide hown2; have K3 : Hid (Kept (fun b => (Value.slice lv es.length lc).ownBlock = some b) w2 w3) := hide hkept; clear hown2 hkept)
        have G3 := hide (GE.push E1.out E2.out E3.out E4.out (by omega) A2.out O2.out O3.out K3.out)
        have hob : ∀ b, (Value.slice lv es.length lc).ownBlock = some b → w.heap.size + 1 ≤ b := fun b hb => (E2'.out.lt b hb).1
        have X3 := hide (X2.out.kept K3.out (fun hq => by have := hob _ hq; omega))
        have B3 := hide (B2.out.trans (K3.out.below (by have := B2.out.size; omega) (fun q hq hS => by have := hob _ hS; omega)))
        go_roundw
        case rel =>
          refine ⟨if r = [] then [[]] else r, es ++ [e], decide (r ≠ []), av3, cv3, by simp, hide ?_, hide ?_, ?_, hide ?_, hide ?_, HE, by simp; omega, by simpa using G3, B3⟩
          · by_cases hr : r = [] <;> simp [hr]
          · by_cases hr : r = []
            · simp [hr, joinC, cutC]
            · rw [if_neg hr]; exact (HRl.out hr).1
          · by_cases hr : r = []
            · simp [hr, joinC]
            · rw [if_neg hr]; have := (HRl.out hr).2; omega
          · by_cases hr : r = []
            · subst hr; simpa [joinC] using X3.out
            · rw [if_neg hr]; exact X3.out
          · intro hj
            by_cases hr : r = []
            · simp [hr, joinC] at hj
            · simp [hr]
        case measure =>
          rw [HRS.out, restN_box X3.out]
          by_cases hr : r = []
          · subst hr; simpa [joinC] using hjl
          · exact (HRl.out hr).2
end Go.Proofs.YtlbccbikepkfiaaGreatDoor
