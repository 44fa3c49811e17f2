/-
  The model's MergeLayer: answers as the program's where both faults are one.
-/
import Derived.Test.YtjkmbicedbdifaaGreatMerR
import Derived.Test.YtjkmbicedbdifaaGreatJ3
namespace Go.Proofs.YtjkmbicedbdifaaGreat
open Go.RowKit Go.Maps
set_option linter.unusedVariables false
attribute [local go_sem ↓] Go.wp_at_zero Go.wp_at_succ

theorem rest_base {t : List En} {e : En} : baseE (restE t e.path true) e = restE t e.path true := by
  unfold baseE
  rw [List.filter_eq_self]
  intro x hx
  obtain ⟨-, h1, h2⟩ := mem_rest.1 hx
  simp [keepE, h1, h2]
theorem put_rest (t : List En) (e : En) : putE (restE t e.path true) e = putAt (restE t e.path true) e := by unfold putE; rw [rest_base]
theorem find_dir {t : List En} (h : FitT t) {p : Bs} {m : Nat} {d : En} (ha : atE t p = some m) (hd : t[m]? = some d) : hasDir t p = decide (d.kind = 2) := by
  have hf : findE t p = some d := by rw [atE_find, ha]; exact hd
  obtain ⟨hm, hp⟩ := find_mem hf
  rw [Bool.eq_iff_iff, hasDir_iff, decide_eq_true_iff]
  constructor
  · rintro ⟨x, hx, hxp, hk⟩
    have : findE t p = some x := by rw [← hxp]; exact rise_find h.fit.rise hx
    rw [hf] at this
    cases this
    exact h.dir hm hk
  · intro hk
    exact ⟨d, hm, hp, by simp [dirK, hk]⟩
theorem find_nodir {t : List En} {p : Bs} (ha : atE t p = none) : hasDir t p = false := by
  have hf : findE t p = none := by rw [atE_find, ha]; rfl
  rw [Bool.eq_false_iff]
  intro h
  obtain ⟨x, hx, hxp, -⟩ := hasDir_iff.1 h
  have := List.find?_eq_none.1 hf x hx
  simp [hxp] at this
theorem over_white {t : List En} {e : En} (h : e.kind = 3) : overE t e = restE t e.path true := by simp [overE, h]
theorem over_stay {t : List En} {e : En} (h : e.kind = 2) (hd : hasDir t e.path = true) : overE t e = t := by simp [overE, h, hd]
theorem over_put {t : List En} {e : En} (h : e.kind ≠ 3) (hd : ¬ (e.kind = 2 ∧ hasDir t e.path = true)) : overE t e = putE (restE t e.path true) (asT e) := by
  unfold overE
  rw [if_neg h, if_neg hd, ← asT_path e, put_rest, asT_path]
/-- What l7One answers: entries that are read. -/
def ResR7 (es : List En) (w : World) (r : Ending) (w' : World) : Prop := ∃ av cv, r = .returned (.slice av es.length cv) ∧ RdE w' av es ∧ Below w.heap.size w w'

set_option maxRecDepth 100000 in
set_option maxHeartbeats 6400000 in
theorem l7One_any (a : Option Addr) (c n : Nat) (t : List En) (e : En) (x : Option Addr) (cc : Nat) (w : World) (h : RdE w a t) (hn : n = t.length) (hl : t.length ≤ 1000000) (hF : FitT t) (hx : Reads .i64 w x e.chunks) (he : entFault e = 0) (hp : e.path.length ≤ 1048576) (hc : e.chunks.length ≤ 1048576) :
    Calls Tryz.prog 114 #[.slice a n c, .agg #[.string (str e.path), .int .i64 e.kind, .int .i64 e.size, .slice x e.chunks.length cc]] w (ResR7 (overE t e) w) := by
  subst hn
  have HS := hide hF.fit.small
  have HFt := hide hF
  have hkk := ent_kinds he
  have BA := hide (below_alloc w (.cells #[.string (str e.path), .int .i64 e.kind, .int .i64 e.size, .slice x e.chunks.length cc] 40))
  have X0 := hide (Box4.new w (.string (str e.path)) (.int .i64 e.kind) (.int .i64 e.size) (.slice x e.chunks.length cc) 40)
  have RW := hide (h.below BA.out)
  have HX := hide hx
  have HAT := hide (l4At_any a c t.length t e.path _ RW.out rfl (by omega))
  have hw0 : w.heap.size < (w.alloc (.cells #[.string (str e.path), .int .i64 e.kind, .int .i64 e.size, .slice x e.chunks.length cc] 40)).heap.size := by simp
  obtain ⟨⟨s0, s1, s2, s3⟩, -⟩ := X0.out
  clear h hF hx he
  go_enter Tryz.func114, Tryz.ntmps114
  go_wp2_with fail
  generalize w.alloc (.cells #[.string (str e.path), .int .i64 e.kind, .int .i64 e.size, .slice x e.chunks.length cc] 40) = W0 at *
  refine HAT.out.mono ?_
  rintro r w1 ⟨rfl, rfl⟩
  clear HAT
  rcases hkk with hk | hk | hk | hk
  · have HZ := hide (show overE t e = putE (restE t e.path true) e from by rw [over_put (by omega) (by omega)]; simp [asT, hk])
    have kf2 : (e.kind == 2) = false := by rw [hk]; rfl
    have kf3 : (e.kind == 3) = false := by rw [hk]; rfl
    have kf4 : (e.kind == 4) = false := by rw [hk]; rfl
    clear hk
    go_wp2_with fail
    refine (l4Without_any a c t.length t e.path true w1 RW.out rfl (by omega) HS.out hp).mono ?_
    rintro r w2 ⟨g, cv, rfl, hG, hb2⟩
    have G2 := hide hG
    have B2 := hide (below_next BA.out hb2)
    obtain ⟨⟨t0, t1, t2, t3⟩, tf⟩ := X0.out.below hb2
    have tf1 := tf 1
    have RX2 := hide (HX.out.below B2.out)
    have hlt2 : w1.heap.size ≤ w2.heap.size := hb2.size
    clear hG hb2 tf
    go_wp2_with fail
    refine (l4Put_any (some ⟨g, 0, none⟩) cv (restE t e.path true).length (restE t e.path true) e x e.chunks.length cc _ G2.out.rd rfl (by have := restE_len t e.path true; omega) (restE_small HS.out _ _) rfl RX2.out hp hc).mono ?_
    rintro r w3 ⟨g3, cv3, rfl, hG3, hb3⟩
    have G3 := hide hG3.rd
    have B3 := hide (below_next B2.out hb3)
    clear hG3 hb3
    go_wp2_with fail
    go_ret
    rw [HZ.out]
    exact ⟨_, cv3, rfl, G3.out, B3.out⟩
  · have kf2 : (e.kind == 2) = true := by rw [hk]; rfl
    have kf3 : (e.kind == 3) = false := by rw [hk]; rfl
    have kf4 : (e.kind == 4) = false := by rw [hk]; rfl
    cases ha : atE t e.path with
    | none =>
      have hd := find_nodir ha
      have HZ := hide (show overE t e = putE (restE t e.path true) e from by rw [over_put (by omega) (by simp [hd])]; simp [asT, hk])
      rw [show placeI none = -1 from rfl]
      clear ha hd hk
      go_wp2_with fail
      refine (l4Without_any a c t.length t e.path true w1 RW.out rfl (by omega) HS.out hp).mono ?_
      rintro r w2 ⟨g, cv, rfl, hG, hb2⟩
      have G2 := hide hG
      have B2 := hide (below_next BA.out hb2)
      obtain ⟨⟨t0, t1, t2, t3⟩, tf⟩ := X0.out.below hb2
      have tf1 := tf 1
      have RX2 := hide (HX.out.below B2.out)
      have hlt2 : w1.heap.size ≤ w2.heap.size := hb2.size
      clear hG hb2 tf
      go_wp2_with fail
      refine (l4Put_any (some ⟨g, 0, none⟩) cv (restE t e.path true).length (restE t e.path true) e x e.chunks.length cc _ G2.out.rd rfl (by have := restE_len t e.path true; omega) (restE_small HS.out _ _) rfl RX2.out hp hc).mono ?_
      rintro r w3 ⟨g3, cv3, rfl, hG3, hb3⟩
      have G3 := hide hG3.rd
      have B3 := hide (below_next B2.out hb3)
      clear hG3 hb3
      go_wp2_with fail
      go_ret
      rw [HZ.out]
      exact ⟨_, cv3, rfl, G3.out, B3.out⟩
    | some m =>
      have hm := atE_lt ha
      obtain ⟨b, off, d, y, dc, rfl, hb, hd, c0, c1, c2, c3, hr⟩ := RW.out.at hm
      have hfd := find_dir HFt.out ha hd
      rw [show placeI (some m) = (m : Int) from rfl]
      have hm0 : ¬ (m : Int) < 0 := by omega
      have hm1 : (0 : Int) ≤ (m : Int) := by omega
      have hm2 : (m : Int) < (t.length : Int) := by omega
      clear ha hr c0 c2 c3 hd
      by_cases hdk : d.kind = 2
      · have hdk' : (d.kind == 2) = true := by simpa using hdk
        have HZ := hide (over_stay (t := t) (e := e) hk (by rw [hfd]; simp [hdk]))
        clear hdk hfd hk
        go_wp2_with fail
        go_ret
        rw [HZ.out]
        exact ⟨_, c, rfl, RW.out, BA.out⟩
      · have hdk' : (d.kind == 2) = false := by simpa using hdk
        have HZ := hide (show overE t e = putE (restE t e.path true) e from by rw [over_put (by omega) (by simp [hfd, hdk])]; simp [asT, hk])
        clear hdk hfd hk
        go_wp2_with fail
        refine (l4Without_any (some ⟨b, off, none⟩) c t.length t e.path true w1 RW.out rfl (by omega) HS.out hp).mono ?_
        rintro r w2 ⟨g, cv, rfl, hG, hb2⟩
        have G2 := hide hG
        have B2 := hide (below_next BA.out hb2)
        obtain ⟨⟨t0, t1, t2, t3⟩, tf⟩ := X0.out.below hb2
        have tf1 := tf 1
        have RX2 := hide (HX.out.below B2.out)
        have hlt2 : w1.heap.size ≤ w2.heap.size := hb2.size
        clear hG hb2 tf
        go_wp2_with fail
        refine (l4Put_any (some ⟨g, 0, none⟩) cv (restE t e.path true).length (restE t e.path true) e x e.chunks.length cc _ G2.out.rd rfl (by have := restE_len t e.path true; omega) (restE_small HS.out _ _) rfl RX2.out hp hc).mono ?_
        rintro r w3 ⟨g3, cv3, rfl, hG3, hb3⟩
        have G3 := hide hG3.rd
        have B3 := hide (below_next B2.out hb3)
        clear hG3 hb3
        go_wp2_with fail
        go_ret
        rw [HZ.out]
        exact ⟨_, cv3, rfl, G3.out, B3.out⟩
  · have kf3 : (e.kind == 3) = true := by rw [hk]; rfl
    have HZ := hide (over_white (t := t) (e := e) hk)
    clear hk
    go_wp2_with fail
    refine (l4Without_any a c t.length t e.path true w1 RW.out rfl (by omega) HS.out hp).mono ?_
    rintro r w2 ⟨g, cv, rfl, hG, hb2⟩
    have G2 := hide hG.rd
    have B2 := hide (below_next BA.out hb2)
    clear hG hb2
    go_wp2_with fail
    go_ret
    rw [HZ.out]
    exact ⟨_, cv, rfl, G2.out, B2.out⟩
  · have HZ := hide (show overE t e = putE (restE t e.path true) (kindE e 2) from by rw [over_put (by omega) (by omega)]; simp [asT, hk])
    have kf2 : (e.kind == 2) = false := by rw [hk]; rfl
    have kf3 : (e.kind == 3) = false := by rw [hk]; rfl
    have kf4 : (e.kind == 4) = true := by rw [hk]; rfl
    clear hk
    go_wp2_with fail
    refine (l4Without_any a c t.length t e.path true w1 RW.out rfl (by omega) HS.out hp).mono ?_
    rintro r w2 ⟨g, cv, rfl, hG, hb2⟩
    have G2 := hide hG
    have B2 := hide (below_next BA.out hb2)
    obtain ⟨⟨t0, t1, t2, t3⟩, tf⟩ := X0.out.below hb2
    have tf1 := tf 1
    have RX2 := hide (HX.out.below B2.out)
    have hlt2 : w1.heap.size ≤ w2.heap.size := hb2.size
    clear hG hb2 tf
    go_wp2_with fail
    have K3 : Hid (Kept (fun b => b = w.heap.size) w2 (w2.setCell ⟨w.heap.size, 1, none⟩ (.int .i64 2))) := hide (Kept.setCell (S := fun b => b = w.heap.size) (p := ⟨w.heap.size, 1, none⟩) (Kept.of_below (Below.refl _ _)) (fun _ => rfl) _)
    have RX3 := hide (HX.out.below (B2.out.setCell (p := ⟨w.heap.size, 1, none⟩) (Nat.le_refl _) (.int .i64 2)))
    have G3' := hide (G2.out.kept K3.out (fun b h1 _ h2 => by omega)).rd
    refine (l4Put_any (some ⟨g, 0, none⟩) cv (restE t e.path true).length (restE t e.path true) (kindE e 2) x e.chunks.length cc _ G3'.out rfl (by have := restE_len t e.path true; omega) (restE_small HS.out _ _) rfl RX3.out hp hc).mono ?_
    rintro r w3 ⟨g3, cv3, rfl, hG3, hb3⟩
    have G3 := hide hG3.rd
    have B3 := hide (below_next (B2.out.setCell (p := ⟨w.heap.size, 1, none⟩) (Nat.le_refl _) (.int .i64 2)) hb3)
    clear hG3 hb3
    go_wp2_with fail
    go_ret
    rw [HZ.out]
    exact ⟨_, cv3, rfl, G3.out, B3.out⟩
set_option maxRecDepth 100000 in
set_option maxHeartbeats 6400000 in
theorem l7Merge_any (a : Option Addr) (c n : Nat) (t : List En) (b : Option Addr) (d m : Nat) (L : List En) (w : World) (h : RdE w a t) (hn : n = t.length) (hl : t.length ≤ 900000) (hT : FitT t) (h2 : RdE w b L) (hm : m = L.length) (hl2 : L.length ≤ 12) (hL : Fit L) :
    Calls Tryz.prog 74 #[.slice a n c, .slice b m d] w fun r w' => ∃ av cv, r = .returned (.slice av (mergeE t L).length cv) ∧ GE w.heap.size w'.heap.size w' (.slice av (mergeE t L).length cv) (mergeE t L) ∧ Below w.heap.size w w' := by
  subst hn
  subst hm
  have HT := hide hT
  have HL := hide hL
  have HR2 := hide h2
  have HC := hide (l4Copy_any a c t.length t w h rfl (by omega) hT.fit.small)
  clear h h2 hT hL
  go_enter Tryz.func74, Tryz.ntmps74
  go_wp2_with fail
  refine HC.out.mono ?_
  rintro r w1 ⟨g, cv, rfl, -, hG, hb1⟩
  have G1 := hide hG.rd
  have B1 := hide hb1
  clear hG hb1 HC
  go_wp2_with fail
  go_loopw [5, 6] (fun v i wr => ∃ (k : Nat) (av : Option Addr) (cv : Nat), k ≤ L.length ∧ i = .int .i64 k ∧ v = .slice av (mergeE t (L.take k)).length cv ∧ Hid (RdE wr av (mergeE t (L.take k))) ∧ Hid (Below w.heap.size w wr)) (fun _ i _ => L.length - (intOf i).toNat)
  case atStart => exact ⟨0, some ⟨g, 0, none⟩, cv, Nat.zero_le _, rfl, rfl, G1, B1⟩
  case round =>
    obtain ⟨k, av, ac, hk, rfl, rfl, HA, HW⟩ := hrel
    have HV := hide (merge_view HT.out HL.out k hk).1
    have hml : (mergeE t (L.take k)).length ≤ 900012 := by have := merge_len (L.take k) t; rw [List.length_take] at this; omega
    by_cases hlt : k < L.length
    · obtain ⟨bb, off, e, x, cc, rfl, hb, he, c0, c1, c2, c3, hr⟩ := (HR2.out.below HW.out).at hlt
      have hsm := HL.out.small e (List.mem_of_getElem? he)
      have hef := HL.out.ent e (List.mem_of_getElem? he)
      have HN := hide (merge_next (t := t) he)
      have HRx := hide hr
      have HOne := hide (l7One_any av ac _ _ e x cc wr HA.out rfl (by omega) HV.out HRx.out hef hsm.1 hsm.2)
      clear he hr hef
      generalize mergeE t (L.take k) = M at *
      go_wp2_with fail
      refine HOne.out.mono ?_
      rintro r w2 ⟨av2, cv2, rfl, hr2, hb2⟩
      have R2 := hide hr2
      have B2 := hide (below_next HW.out hb2)
      clear hr2 hb2 c0 c1 c2 c3 HOne
      go_wp2_with fail
      go_roundw
      case rel => exact ⟨k + 1, av2, cv2, by omega, by go_num, by rw [HN.out], hide (by rw [HN.out]; exact R2.out), B2⟩
      case measure => simp [intOf]; omega
    · have HE := hide (show L.take k = L from List.take_of_length_le (by omega))
      rw [HE.out] at HA HV hml ⊢
      have HCo := hide (l4Copy_any av ac _ (mergeE t L) wr HA.out rfl (by omega) HV.out.fit.small)
      go_wp2_with fail
      refine HCo.out.mono ?_
      rintro r w2 ⟨g2, cv2, rfl, -, hG2, hb2⟩
      have G2 := hide hG2
      have B2 := hide (below_next HW.out hb2)
      have hsz := HW.out.size
      clear hG2 hb2 HCo
      go_wp2_with fail
      go_ret
      exact ⟨_, cv2, rfl, G2.out.mono (by omega), B2.out⟩
/-- What the model's MergeLayer answers. -/
def smgCode (t L : List En) : Int := if treFault t = 0 then (if layFault L = 0 then (if 40 < (mergeE t L).length then 2 else 0) else layFault L) else treFault t
def smgList (t L : List En) : List En := if smgCode t L = 0 then mergeE t L else []
theorem smg_tree {t L : List En} (h : treFault t ≠ 0) : smgCode t L = treFault t ∧ smgList t L = [] := by
  have : smgCode t L = treFault t := by simp [smgCode, h]
  exact ⟨this, by simp [smgList, this, h]⟩
theorem smg_layer {t L : List En} (h : treFault t = 0) (h2 : layFault L ≠ 0) : smgCode t L = layFault L ∧ smgList t L = [] := by
  have : smgCode t L = layFault L := by simp [smgCode, h, h2]
  exact ⟨this, by simp [smgList, this, h2]⟩
theorem smg_many {t L : List En} (h : treFault t = 0) (h2 : layFault L = 0) (h3 : 40 < (mergeE t L).length) : smgCode t L = 2 ∧ smgList t L = [] := by
  have : smgCode t L = 2 := by simp [smgCode, h, h2, h3]
  exact ⟨this, by simp [smgList, this]⟩
theorem smg_ok {t L : List En} (h : treFault t = 0) (h2 : layFault L = 0) (h3 : ¬ 40 < (mergeE t L).length) : smgCode t L = 0 ∧ smgList t L = mergeE t L := by
  have : smgCode t L = 0 := by simp [smgCode, h, h2, h3]
  exact ⟨this, by simp [smgList, this]⟩
end Go.Proofs.YtjkmbicedbdifaaGreat
