/-
  The model's ParseLayer.
-/
import Derived.Test.YtlbccbikepkfiaaGreatDoorParM
import Derived.Test.YtlbccbikepkfiaaGreatDoorParQ
import Derived.Test.YtlbccbikepkfiaaGreatDoorJ2
namespace Go.Proofs.YtlbccbikepkfiaaGreatDoor
open Go.RowKit
set_option linter.unusedVariables false
set_option maxRecDepth 100000

theorem mapM_snocE {f : Bs → Option En} {ls : List Bs} {es : List En} {l : Bs} {e : En} (h : ls.mapM f = some es) (hl : f l = some e) : (ls ++ [l]).mapM f = some (es ++ [e]) := by
  rw [List.mapM_append, h]
  simp [hl]
theorem mapM_fails {f : Bs → Option En} {ls : List Bs} {l : Bs} {r : List Bs} (hl : f l = none) : (ls ++ l :: r).mapM f = none := by
  rw [List.mapM_append]
  cases ls.mapM f <;> simp [hl]
theorem take_past {ps : List Bs} {k m : Nat} {l : Bs} (h : ps[k]? = some l) (hk : k < m) : ∃ r, ps.take m = ps.take k ++ l :: r := by
  have h1 : ps.take m = ps.take k ++ (ps.take m).drop k := by
    have := (List.take_append_drop k (ps.take m)).symm
    rw [List.take_take, Nat.min_eq_left (by omega)] at this
    exact this
  have hkl := (List.getElem?_eq_some_iff.1 h).1
  have h2 : (ps.take m)[k]? = some l := by rw [List.getElem?_take_of_lt hk]; exact h
  have h3 := (List.getElem?_eq_some_iff.1 h2)
  refine ⟨(ps.take m).drop (k + 1), ?_⟩
  rw [h1]
  congr 1
  rw [← h1, List.drop_eq_getElem_cons h3.1, h3.2]
theorem par_each {ls : List Bs} {es : List En} (h : ls.mapM parE = some es) (hb : ∀ l ∈ ls, l.length ≤ 600) : SmallE es := by
  intro e he
  obtain ⟨l, hl, hp⟩ := mapM_mem h e he
  obtain ⟨hf, ht⟩ := parE_iff.1 hp
  have h1 := readE_len (readE_of hf)
  rw [ht] at h1
  have h2 := hb l hl
  omega
/-- What the model's l5Layer answers. -/
def ResQ (t : Bs) (w : World) (r : Ending) (w' : World) : Prop :=
  (match (cutC 10 t).dropLast.mapM parE with
    | none => r = .returned (.tuple #[.slice none 0 0, .bool false])
    | some es => ∃ av cv, r = .returned (.tuple #[.slice av es.length cv, .bool (decide ((cutC 10 t).getLast? = some [] ∧ layFault es = 0))]) ∧ GE w.heap.size w'.heap.size w' (.slice av es.length cv) es) ∧ Below w.heap.size w w'
set_option maxHeartbeats 6400000 in
theorem l5Layer_any (t : Bs) (w : World) (hl : t.length ≤ 600) : Calls Tryz.prog 24 #[.string (str t)] w (ResQ t w) := by
  obtain ⟨i1, ki, kz0, kz1, kz2⟩ := info_parts Tryz.infoEn
  have hsz := str_size t
  have HD : Hid (ResQ t w = ResQ t w) := hide rfl
  have hn0 : 0 < (cutC 10 t).length := List.length_pos_iff.2 (cutC_ne 10 t)
  have hn1 := cutC_length (m := 10) t
  have HEach := hide (cutC_each (m := 10) t)
  have HSD := hide (str_data t)
  have HRQ := hide (show ∀ r w', ((match ((cutC 10 t).take ((cutC 10 t).length - 1)).mapM parE with
    | none => r = .returned (.tuple #[.slice none 0 0, .bool false])
    | some es => ∃ av cv, r = .returned (.tuple #[.slice av es.length cv, .bool (decide ((cutC 10 t).getLast? = some [] ∧ layFault es = 0))]) ∧ GE w.heap.size w'.heap.size w' (.slice av es.length cv) es) ∧ Below w.heap.size w w') → ResQ t w r w' from fun r w' h => by unfold ResQ; rw [List.dropLast_eq_take]; exact h)
  clear HD
  go_enter Tryz.func24, Tryz.ntmps24
  go_wp2_with fail
  refine (l3CutC_any 10 (str t) _ (by omega)).mono ?_
  rintro r w1 ⟨v, rfl, ho, hb1⟩
  rw [HSD.out] at ho
  obtain ⟨pv, pc, rfl⟩ := ownsRow_shape ho
  have RS := hide (OwnS.reads ho)
  have B1 := hide hb1
  clear ho hb1
  generalize cutC 10 t = ps at *
  go_wp2_with fail
  go_loopw [5, 6] (fun v i wr => ∃ (k : Nat) (es : List En) (lv : Option Addr) (lc : Nat), k + 1 ≤ ps.length ∧ v = .slice lv es.length lc ∧ i = .int .i64 k ∧ es.length = k ∧ Hid ((ps.take k).mapM parE = some es) ∧ Hid (GE w1.heap.size wr.heap.size wr v es) ∧ Hid (Below w1.heap.size w1 wr)) (fun _ i _ => ps.length - (intOf i).toNat)
  case atStart => exact ⟨0, [], some ⟨w1.heap.size, 0, none⟩, 0, hn0, rfl, rfl, rfl, hide (by simp), hide (GE.made w1), hide (below_alloc _ _)⟩
  case round =>
    obtain ⟨k, es, lv, lc, hk, rfl, rfl, hek, HM, HG, HW⟩ := hrel
    have hwz := HW.out.size
    have HEK := hide hek
    have hes : es.length ≤ 601 := by omega
    clear hek
    have hk1 : IntKind.i64.wrap ((k : Int) + 1) = (k : Int) + 1 := by simp [IntKind.wrap, IntKind.signed, IntKind.bits]; omega
    obtain ⟨pb, po, rfl, hpb, hpc⟩ := (RS.out.below HW.out) (by intro e; simp [e] at hn0)
    by_cases hlt : k + 1 < ps.length
    · have hlt' : (k : Int) + 1 < (ps.length : Int) := by omega
      have hk2 : (0 : Int) ≤ (k : Int) := by omega
      have hk3 : (k : Int) < (ps.length : Int) := by omega
      have c0 := hpc k (by omega)
      have hx : ps[k]? = some (ps.getD k []) := by rw [List.getD_eq_getElem?_getD, List.getElem?_eq_getElem (by omega)]; rfl
      clear hpc
      generalize ps.getD k [] = l at *
      have hll := HEach.out l (List.mem_of_getElem? hx)
      have HX := hide hx
      clear hx
      have HP := hide (l5Parse_any l wr (by omega))
      cases hp : parE l with
      | none =>
        rw [hp] at HP
        have HN : Hid ((ps.take (ps.length - 1)).mapM parE = none) := hide (by
          obtain ⟨r, hr⟩ := take_past (m := ps.length - 1) HX.out (by omega)
          rw [hr]
          exact mapM_fails hp)
        clear hp
        go_wp2_with fail
        refine HP.out.mono ?_
        rintro r w2 ⟨rfl, hb2⟩
        have B2 := hide (below_next (below_next B1.out HW.out) (below_next hb2 (below_alloc w2 (.cells #[.string ⟨#[]⟩, .int .i64 0, .int .i64 0, .slice none 0 0] 39))))
        clear hb2
        go_wp2_with fail
        exact bodyPost_ret (v := .tuple #[.slice none 0 0, .bool false]) (by simp [results, Tryz.results24, go_sem]) rfl (HRQ.out _ _ (by rw [HN.out]; exact ⟨rfl, B2.out⟩))
      | some e =>
        rw [hp] at HP
        have HN : Hid ((ps.take (k + 1)).mapM parE = some (es ++ [e])) := hide (by
          rw [List.take_add_one, HX.out]
          exact mapM_snocE HM.out hp)
        clear hp
        go_wp2_with fail
        refine HP.out.mono ?_
        rintro r w2 ⟨⟨av, cv, rfl, hO⟩, hb2⟩
        have A2 := hide (below_next hb2 (below_alloc w2 (.cells #[.string (str e.path), .int .i64 e.kind, .int .i64 e.size, .slice av e.chunks.length cv] 39)))
        have O2 := hide (ownsRow_below hO (below_alloc w2 (.cells #[.string (str e.path), .int .i64 e.kind, .int .i64 e.size, .slice av e.chunks.length cv] 39)))
        obtain ⟨rs, g1, g2, g3, g4, g5, g6⟩ := HG.out
        have E1 := hide g1
        have E2 := hide g2
        have E3 := hide g3
        have E4 := hide g4
        have E2' := hide (ownsRow_below g2 A2.out)
        have hs2 := A2.out.size
        have hH2 : (w2.alloc (.cells #[.string (str e.path), .int .i64 e.kind, .int .i64 e.size, .slice av e.chunks.length cv] 39)).heap.size = w2.heap.size + 1 := by simp
        clear g1 g2 g3 g4 g5 g6 hO hb2 c0
        have hm1 : es.length + 1 ≤ maxLen := by unfold maxLen; omega
        have hm1' : (es.length + 1) * 56 ≤ 140737488355328 := by omega
        go_wp2_with (at_builtin; refine wpList_append_put rfl (.tmp 29) (.tmp 31) 25 rfl w1.heap.size 39 i1 (.agg #[.string ⟨#[]⟩, .int .i64 0, .int .i64 0, .slice none 0 0]) 4 56 Tryz.underlying25 ki kz0 kz1 kz2 rfl (by decide) _ _ _ rfl E2'.out _ hH2 rfl rfl (by intro u hu; simp at hu; rcases hu with rfl | rfl | rfl | rfl <;> rfl) hm1 hm1' (by omega) ?_; intro av3 cv3 w3 hown2 hkept; have O3 := hide hown2; have K3 : Hid (Kept (fun b => (Value.slice lv es.length lc).ownBlock = some b) (w2.alloc (.cells #[.string (str e.path), .int .i64 e.kind, .int .i64 e.size, .slice av e.chunks.length cv] 39)) w3) := hide hkept; clear hown2 hkept)
        have G3 := hide (GE.push E1.out E2.out E3.out E4.out (by omega) A2.out O2.out O3.out K3.out)
        have B3 := hide ((below_next HW.out A2.out).trans (K3.out.below (by omega) (fun q hq hS => by have := (E2'.out.lt _ hS).1; omega)))
        go_roundw
        case rel => exact ⟨k + 1, es ++ [e], av3, cv3, by omega, by simp, by go_num, by simp [HEK.out], HN, by simpa using G3, B3⟩
        case measure => simp [intOf]; omega
    · have hke : k = ps.length - 1 := by omega
      have hlt' : ¬ (k : Int) + 1 < (ps.length : Int) := by omega
      have hk4 : IntKind.i64.wrap ((ps.length : Int) - 1) = (k : Int) := by simp [IntKind.wrap, IntKind.signed, IntKind.bits]; omega
      have hk2 : (0 : Int) ≤ (k : Int) := by omega
      have hk3 : (k : Int) < (ps.length : Int) := by omega
      have c0 := hpc k (by omega)
      have hx : ps.getLast? = some (ps.getD k []) := by rw [List.getLast?_eq_getElem?, ← hke, List.getD_eq_getElem?_getD, List.getElem?_eq_getElem (by omega)]; rfl
      clear hpc
      generalize ps.getD k [] = l at *
      have HN : Hid ((ps.take (ps.length - 1)).mapM parE = some es) := hide (by rw [← hke]; exact HM.out)
      have HSm := hide (par_each HM.out (fun x hx => Nat.le_trans (HEach.out x (List.mem_of_mem_take hx)) hl))
      rw [hx] at HRQ
      rw [HN.out] at HRQ
      have HRZ : Hid (∀ r w', ((∃ av cv, r = .returned (.tuple #[.slice av es.length cv, .bool (decide ((some l : Option Bs) = some [] ∧ layFault es = 0))]) ∧ GE w.heap.size w'.heap.size w' (.slice av es.length cv) es) ∧ Below w.heap.size w w') → ResQ t w r w') := HRQ
      clear HRQ
      have HLF := hide (l4Fault_any lv lc es.length es wr HG.out.rd rfl (by omega) HSm.out)
      have HGE := hide (HG.out.mono (B' := w.heap.size) (by have := B1.out.size; omega))
      clear hx HM HG hke hk hn0
      by_cases hl0 : l = []
      · have hs0 : ((str l).toList == []) = true := by rw [str_toList]; simp [hl0]
        by_cases hf : layFault es = 0
        · have HV : Hid (decide ((some l : Option Bs) = some [] ∧ layFault es = 0) = true) := hide (by simp [hl0, hf])
          rw [hf] at HLF
          rw [HV.out] at HRZ
          clear hl0 hf HV
          go_wp2_with fail
          refine HLF.out.mono ?_
          rintro r w2 ⟨rfl, hb2⟩
          have B2 := hide (below_next (below_next B1.out HW.out) hb2)
          have G2 := hide ((HGE.out.below hb2).wide hb2.size)
          clear hb2
          go_wp2_with fail
          exact bodyPost_ret (v := .tuple #[.slice lv es.length lc, .bool true]) (by simp [results, Tryz.results24, go_sem]) rfl (HRZ.out _ _ ⟨⟨lv, lc, rfl, G2.out⟩, B2.out⟩)
        · have HV : Hid (decide ((some l : Option Bs) = some [] ∧ layFault es = 0) = false) := hide (by simp [hf])
          have hf2 : (layFault es == 0) = false := by simpa using hf
          rw [HV.out] at HRZ
          generalize layFault es = F at *
          clear hl0 hf HV
          go_wp2_with fail
          refine HLF.out.mono ?_
          rintro r w2 ⟨rfl, hb2⟩
          have B2 := hide (below_next (below_next B1.out HW.out) hb2)
          have G2 := hide ((HGE.out.below hb2).wide hb2.size)
          clear hb2
          go_wp2_with fail
          exact bodyPost_ret (v := .tuple #[.slice lv es.length lc, .bool false]) (by simp [results, Tryz.results24, go_sem]) rfl (HRZ.out _ _ ⟨⟨lv, lc, rfl, G2.out⟩, B2.out⟩)
      · have hs0 : ((str l).toList == []) = false := by rw [str_toList]; simp [hl0]
        have HV : Hid (decide ((some l : Option Bs) = some [] ∧ layFault es = 0) = false) := hide (by simp [hl0])
        rw [HV.out] at HRZ
        have B2 := hide (below_next B1.out HW.out)
        clear hl0 HV
        go_wp2_with fail
        exact bodyPost_ret (v := .tuple #[.slice lv es.length lc, .bool false]) (by simp [results, Tryz.results24, go_sem]) rfl (HRZ.out _ _ ⟨⟨lv, lc, rfl, HGE.out⟩, B2.out⟩)
set_option maxHeartbeats 3200000 in
theorem specParseLayer_any (a : Option Addr) (c : Nat) (zs : List Int) (w : World) (hm : zs.length ≤ 9223372036854775807) (h : RdB w a zs) :
    Calls Tryz.prog 8 #[.slice a zs.length c] w (ResE (layCode (textB zs)) (layList (textB zs)) w) := by
  have X0 := hide (Box.new w (.int .i64 0) (.slice none 0 0) 27)
  have B0 := hide (below_alloc w (.cells #[.int .i64 0, .slice none 0 0] 27))
  have hcv := conv_any (h.below B0.out) c
  by_cases hl : 600 < zs.length
  · obtain ⟨e1, e2⟩ := lay_many (t := textB zs) (by rw [textB_len]; exact hl)
    rw [e1, e2]
    have hb : (600 : Int) < (zs.length : Int) := by omega
    obtain ⟨⟨t0, t1⟩, t2, t3⟩ := X0.out
    clear h hcv e1 e2
    go_enter Tryz.func8, Tryz.ntmps8
    go_wp2_with fail
    exact bodyPost_ret (v := .agg #[.int .i64 2, .slice none 0 0]) (by simp [results, Tryz.results8, go_sem]) rfl ⟨none, 0, rfl, GE.nil _ _ _, below_alloc _ _⟩
  · have hl' : ¬ 600 < (textB zs).length := by rw [textB_len]; exact hl
    have hb : ¬ (600 : Int) < (zs.length : Int) := by omega
    have HQ := hide (l5Layer_any (textB zs) (w.alloc (.cells #[.int .i64 0, .slice none 0 0] 27)) (by omega))
    have hmod := modL_eq (textB zs)
    unfold modL at hmod
    unfold ResQ at HQ
    cases hr : (cutC 10 (textB zs)).dropLast.mapM parE with
    | none =>
      rw [hr] at HQ hmod
      obtain ⟨e1, e2⟩ := lay_no hl' hmod.symm
      rw [e1, e2]
      clear h hmod e1 e2 hr hl'
      generalize textB zs = T at *
      go_enter Tryz.func8, Tryz.ntmps8
      go_wp2_with fail
      refine HQ.out.mono ?_
      rintro r w1 ⟨rfl, hb1⟩
      obtain ⟨⟨t0, t1⟩, t2, t3⟩ := X0.out.below hb1
      have B1 := hide (below_next B0.out hb1)
      clear hb1
      go_wp2_with fail
      exact bodyPost_ret (v := .agg #[.int .i64 5, .slice none 0 0]) (by simp [results, Tryz.results8, go_sem, t0, t1]) rfl (ResE.bad (Nat.le_refl _) B1.out)
    | some es =>
      rw [hr] at HQ hmod
      simp only [Option.bind_some] at hmod
      by_cases hc : (cutC 10 (textB zs)).getLast? = some [] ∧ layFault es = 0
      · rw [if_pos hc] at hmod
        obtain ⟨e1, e2⟩ := lay_so hl' hmod.symm
        rw [e1, e2]
        have HQ2 := HQ.out
        simp only [decide_eq_true hc] at HQ2
        have HQ3 := hide HQ2
        clear h hmod e1 e2 hr hl' hc HQ HQ2
        generalize textB zs = T at *
        go_enter Tryz.func8, Tryz.ntmps8
        go_wp2_with fail
        refine HQ3.out.mono ?_
        rintro r w1 ⟨⟨av, cv, rfl, hG⟩, hb1⟩
        obtain ⟨⟨t0, t1⟩, t2, t3⟩ := X0.out.below hb1
        have B1 := hide (below_next B0.out hb1)
        have G1 := hide hG
        clear hb1 hG
        go_wp2_with fail
        exact bodyPost_ret (v := .agg #[.int .i64 0, .slice av es.length cv]) (by simp [results, Tryz.results8, go_sem, t0, t1]) rfl (ResE.of (w2 := w) (by simp) (Nat.le_refl _) rfl G1.out B1.out)
      · rw [if_neg hc] at hmod
        obtain ⟨e1, e2⟩ := lay_no hl' hmod.symm
        rw [e1, e2]
        have HQ2 := HQ.out
        simp only [decide_eq_false hc] at HQ2
        have HQ3 := hide HQ2
        clear h hmod e1 e2 hr hl' hc HQ HQ2
        generalize textB zs = T at *
        go_enter Tryz.func8, Tryz.ntmps8
        go_wp2_with fail
        refine HQ3.out.mono ?_
        rintro r w1 ⟨⟨av, cv, rfl, hG⟩, hb1⟩
        obtain ⟨⟨t0, t1⟩, t2, t3⟩ := X0.out.below hb1
        have B1 := hide (below_next B0.out hb1)
        clear hb1 hG
        go_wp2_with fail
        exact bodyPost_ret (v := .agg #[.int .i64 5, .slice none 0 0]) (by simp [results, Tryz.results8, go_sem, t0, t1]) rfl (ResE.bad (Nat.le_refl _) B1.out)
end Go.Proofs.YtlbccbikepkfiaaGreatDoor
