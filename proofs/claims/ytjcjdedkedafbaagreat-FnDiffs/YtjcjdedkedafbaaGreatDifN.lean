/-
  The model's way from one tree to another one: how many entries it has.
-/
import Derived.Test.YtjcjdedkedafbaaGreatDifM
import Derived.Test.YtjcjdedkedafbaaGreatStrsR
import Derived.Deep.RegionHeld3
namespace Go.Proofs.YtjcjdedkedafbaaGreat
open Go.RowKit Go.Maps
set_option linter.unusedVariables false
attribute [local go_sem ↓] Go.wp_at_zero Go.wp_at_succ

def turnF (a : List En) (e : En) : Bool := !(a.any fun y => decide (e = y))
theorem turnE_eq (a b : List En) : turnE a b = b.filter (turnF a) := rfl
def goneG (b : List En) (e : En) : Bool := !(atP b e.path) && decide (homeC b e.path = 0)
theorem goneG_eq (a b : List En) : goneE a b = (a.filter (goneG b)).map fun e => whiteE e.path := rfl
theorem filt_in {es : List En} {f : En → Bool} {k : Nat} {e : En} (he : es[k]? = some e) (h : f e = true) : (es.take (k + 1)).filter f = (es.take k).filter f ++ [e] := by
  rw [take_next he, List.filter_append]; simp [h]
theorem filt_out {es : List En} {f : En → Bool} {k : Nat} {e : En} (he : es[k]? = some e) (h : f e = false) : (es.take (k + 1)).filter f = (es.take k).filter f := by
  rw [take_next he, List.filter_append]; simp [h]
/-- Is an entry another one there? -/
theorem turnF_none {a : List En} {e : En} (h : atE a e.path = none) : turnF a e = true := by
  have := atP_false.1 (at_atP.1 h)
  simp only [turnF, Bool.not_eq_true', List.any_eq_false, decide_eq_true_eq]
  exact fun y hy e1 => this y hy (by rw [e1])
theorem turnF_some {a : List En} {e y : En} {k : Nat} (hR : RightT a) (h : a[k]? = some y) (hp : y.path = e.path) : turnF a e = !decide ([y] = [e]) := by
  have hy := List.mem_of_getElem? h
  by_cases e1 : y = e
  · subst e1
    have : (a.any fun z => decide (y = z)) = true := List.any_eq_true.2 ⟨y, hy, by simp⟩
    simp [turnF, this]
  · have : (a.any fun z => decide (e = z)) = false := List.any_eq_false.2 (fun z hz => by
      simp only [decide_eq_true_eq]
      rintro rfl
      exact e1 (hR.only hy hz hp))
    simp [turnF, this, e1]

theorem path_15 {p : Bs} (h : faultP p = 0) : p.length ≤ 15 := by
  obtain ⟨ns, hN, hpe, _, _⟩ := faultP_zero h
  have h1 := join_len ns hN.2.2.1
  have h2 := hN.2.2.2
  rw [hpe]
  omega
theorem flat_len : ∀ (l : List En), (∀ e ∈ l, (upsE e).length ≤ 40) → (l.flatMap upsE).length ≤ l.length * 40
  | [], _ => by simp
  | e :: l, h => by
    have h1 := h e List.mem_cons_self
    have h2 := flat_len l (fun z hz => h z (List.mem_cons_of_mem _ hz))
    rw [List.flatMap_cons, List.length_append, List.length_cons]
    omega
theorem ups_len {e : En} (h : faultP e.path = 0) : (upsE e).length ≤ 40 := by
  have h1 := aboveN_length (cutB e.path.tail)
  have h3 := cutB_length e.path.tail
  have h4 := path_15 h
  simp only [List.length_tail] at h3
  unfold upsE
  omega
theorem dirs_small {O : List En} {P : List Bs} (h : ∀ p ∈ P, faultP p = 0) : SmallE (dirsOf O P) := by
  intro x hx
  obtain ⟨p, hp, -, rfl⟩ := ((dirsOf_facts O P).2.2 x).1 hx
  have := path_15 (h p hp)
  exact ⟨by show p.length ≤ 1048576; omega, by simp [dirE]⟩
theorem ups_path {e : En} (h : faultP e.path = 0) : ∀ p ∈ upsE e, faultP p = 0 := fun p hp => ((above_iff h).1 hp).1
theorem flat_path {l : List En} (h : ∀ e ∈ l, faultP e.path = 0) : ∀ p ∈ l.flatMap upsE, faultP p = 0 := by
  intro p hp
  obtain ⟨e, he, hpe⟩ := List.mem_flatMap.1 hp
  exact ups_path (h e he) p hpe
theorem SE.lower {B B' : Nat} {w : World} {v : Value} {es : List En} (h : SE B w v es) (hB : B' ≤ B) : SE B' w v es := by
  obtain ⟨rs, h1, h2, h3⟩ := h
  exact ⟨rs, h1, ownsRow_mono h2 hB, h3⟩
theorem take_ups {l : List Bs} {k : Nat} {p : Bs} (h : l[k]? = some p) : l.take (k + 1) = l.take k ++ [p] := by
  rw [List.take_add_one, h]; rfl

set_option maxRecDepth 100000 in
set_option maxHeartbeats 12800000 in
theorem l7Diff_any (a : Option Addr) (c n : Nat) (es : List En) (b : Option Addr) (d m : Nat) (fs : List En) (w : World) (h : RdE w a es) (hn : n = es.length) (hR : RightT es) (hc : es.length ≤ c) (h2 : RdE w b fs) (hm : m = fs.length) (hR2 : RightT fs) (hd : fs.length ≤ d) :
    Calls Tryz.prog 26 #[.slice a n c, .slice b m d] w fun r w' => ∃ (g cv : Nat) (L : List En), r = .returned (.slice (some ⟨g, 0, none⟩) (diffE es fs).length cv) ∧ L.length = (diffE es fs).length ∧ GE w.heap.size w'.heap.size w' (.slice (some ⟨g, 0, none⟩) L.length cv) L ∧ Below w.heap.size w w' := by
  subst hn hm
  obtain ⟨i1, ki, kz0, kz1, kz2⟩ := info_parts Tryz.infoEn
  have HR := hide h
  have HR2 := hide h2
  have HRT := hide hR
  have HRT2 := hide hR2
  have hl := hR.len
  have hl2 := hR2.len
  clear h h2 hR hR2
  go_enter Tryz.func26, Tryz.ntmps26
  go_wp2_with fail
  go_loopw [5, 6] (fun v i wr => ∃ k : Nat, k ≤ es.length ∧ i = .int .i64 k ∧ Hid (LE w wr v (goneE (es.take k) fs)) ∧ Hid (Below w.heap.size w wr)) (fun _ i _ => es.length - (intOf i).toNat)
  case atStart => exact ⟨0, Nat.zero_le _, rfl, hide (LE.made w), hide (below_alloc _ _)⟩
  case round =>
    obtain ⟨k, hk, rfl, HL, HW⟩ := hrel
    have hsz := HW.out.size
    obtain ⟨lv, lc, hv⟩ := HL.out.shape
    subst hv
    have hrl : (goneE (es.take k) fs).length ≤ k := by
      rw [goneG_eq, List.length_map]
      have := List.length_filter_le (goneG fs) (es.take k)
      rw [List.length_take] at this
      omega
    by_cases hlt : k < es.length
    · obtain ⟨bb, off, e, x, cc, rfl, hb, he, c0, c1, c2, c3, hr⟩ := (HR.out.below HW.out).at hlt
      have hep := HRT.out.path (List.mem_of_getElem? he)
      have hpl := (HRT.out.small e (List.mem_of_getElem? he)).1
      have hp1 := path_pos hep
      have HX := hide he
      have HAT := hide (l4At_any b d fs.length fs e.path wr (HR2.out.below HW.out) rfl (by omega))
      have HPAR := hide (fun (u : World) => l3Parent_any (str e.path) u (by rw [str_size]; omega) (by rw [str_size]; omega))
      have e0 : (aboveN (cutB (str e.path).data.toList.tail)).getLastD [] = parentP e.path := by rw [str_data]; rfl
      rw [e0] at HPAR
      have HDIR := hide (fun (u : World) (hb' : Below wr.heap.size wr u) => l7IsDir_any b d fs.length fs (parentP e.path) u (HR2.out.below (below_next HW.out hb')) rfl (by omega))
      rw [isDirM_home HRT2.out e.path] at HDIR
      have HC0 : Hid (∀ u : World, Below wr.heap.size wr u → u.cell? ⟨bb, off + k * 4, none⟩ = some (.string (str e.path))) := hide (fun u hu => (hu.cell (p := ⟨bb, off + k * 4, none⟩) hb).trans c0)
      have hk0 : (0 : Int) ≤ (k : Int) := by omega
      have hk1 : (k : Int) < (es.length : Int) := by omega
      clear he hr c1 c2 c3 e0
      cases hat : atE fs e.path with
      | none =>
        have hatp := at_atP.1 hat
        rw [hat] at HAT
        have e1 : placeI none = -1 := rfl
        rw [e1] at HAT
        clear hat e1
        go_wp2_with fail
        refine HAT.out.mono ?_
        rintro r w1 ⟨rfl, hw1⟩
        have hw2 := hw1.symm
        clear hw1
        subst hw2
        go_wp2_with fail
        refine (HPAR.out _).mono ?_
        rintro r w2 ⟨rfl, hb2⟩
        have B2 := hide hb2
        clear hb2
        go_wp2_with fail
        refine (HDIR.out _ B2.out).mono ?_
        rintro r w3 ⟨rfl, hw3⟩
        have hw4 := hw3.symm
        clear hw3
        subst hw4
        by_cases hh : homeC fs e.path = 0
        · have hg : goneG fs e = true := by simp [goneG, hatp, hh]
          have HN := hide (show goneE (es.take (k + 1)) fs = goneE (es.take k) fs ++ [whiteE e.path] from by rw [goneG_eq, goneG_eq, filt_in HX.out hg, List.map_append]; rfl)
          rw [decide_eq_true hh]
          have c0' := HC0.out _ B2.out
          obtain ⟨rs, g1, g2, g3⟩ := HL.out
          have G1 := hide g1
          have G2 := hide (ownsRow_below g2 B2.out)
          have G3 := hide g3
          clear g1 g2 g3 hh hatp hg c0
          obtain ⟨LL, hLL⟩ : ∃ LL, LL = (goneE (es.take k) fs).length := ⟨_, rfl⟩
          rw [← hLL] at hrl G2 ⊢
          have HLn := hide hLL
          clear hLL
          have hm1 : LL + 1 ≤ maxLen := by unfold maxLen; omega
          have hm1' : (LL + 1) * 56 ≤ 140737488355328 := by omega
          have hsz5 := B2.out.size
          go_wp2_with (at_builtin; refine wpList_append_put rfl (.tmp 41) (.tmp 48) 24 rfl w.heap.size 53 i1 (.agg #[.string ⟨#[]⟩, .int .i64 0, .int .i64 0, .slice none 0 0]) 4 56 Tryz.underlying24 ki kz0 kz1 kz2 rfl (by decide) _ _ _ rfl G2.out _ rfl rfl rfl (by intro u hu; simp at hu; rcases hu with rfl | rfl | rfl | rfl <;> rfl) hm1 hm1' (by omega) ?_; intro av6 cv6 w6 hown6 hk6; have O6 := hide hown6; have K6 := hide hk6; clear hown6 hk6)
          go_roundw
          case rel =>
            refine ⟨k + 1, by omega, by go_num, hide ?_, hide ?_⟩
            · rw [HN.out]
              exact LE.push (e := whiteE e.path) (a := none) (c := 0) G1.out HLn.out G3.out (fun hne => absurd rfl hne) O6.out
            · exact (below_next HW.out B2.out).trans (K6.out.below (by omega) (fun q hq hS => by have := (G2.out.lt q hS).1; omega))
          case measure => simp [intOf]; omega
        · have hg : goneG fs e = false := by simp [goneG, hatp, hh]
          have HN := hide (show goneE (es.take (k + 1)) fs = goneE (es.take k) fs from by rw [goneG_eq, goneG_eq, filt_out HX.out hg])
          rw [decide_eq_false hh]
          clear hh hatp hg
          go_wp2_with fail
          go_roundw
          case rel => exact ⟨k + 1, by omega, by go_num, hide (by rw [HN.out]; exact (let ⟨rs, g1, g2, g3⟩ := HL.out; ⟨rs, g1, ownsRow_below g2 B2.out, g3⟩)), hide (below_next HW.out B2.out)⟩
          case measure => simp [intOf]; omega
      | some j =>
        have hatp := at_atP' hat
        have hg : goneG fs e = false := by simp [goneG, hatp]
        have HN := hide (show goneE (es.take (k + 1)) fs = goneE (es.take k) fs from by rw [goneG_eq, goneG_eq, filt_out HX.out hg])
        rw [hat] at HAT
        have e1 : placeI (some j) = (j : Int) := rfl
        rw [e1] at HAT
        have hj0 : ¬ (j : Int) < 0 := by omega
        clear hat e1 hg hatp
        go_wp2_with fail
        refine HAT.out.mono ?_
        rintro r w1 ⟨rfl, hw1⟩
        have hw2 := hw1.symm
        clear hw1
        subst hw2
        go_wp2_with fail
        go_roundw
        case rel => exact ⟨k + 1, by omega, by go_num, hide (by rw [HN.out]; exact HL.out), HW⟩
        case measure => simp [intOf]; omega
    · have HE := hide (show es.take k = es from List.take_of_length_le (by omega))
      rw [HE.out] at HL hrl ⊢
      clear HE
      generalize hG : goneE es fs = G at *
      have HGe := hide hG
      have hGl : G.length ≤ 40 := by omega
      clear hG hrl
      go_wp2_with fail
      obtain ⟨W1, hW1⟩ : ∃ W1, W1 = wr := ⟨_, rfl⟩
      subst hW1
      go_loopw [5, 7] (fun v i w2 => ∃ k : Nat, k ≤ fs.length ∧ i = .int .i64 k ∧ Hid (LE w w2 v (G ++ turnE es (fs.take k))) ∧ Hid (Below w.heap.size w w2)) (fun _ i _ => fs.length - (intOf i).toNat)
      case atStart => exact ⟨0, Nat.zero_le _, rfl, hide (by simpa [turnE] using HL.out), HW⟩
      case round =>
        clear HL HW hsz hlt hk
        obtain ⟨k, hk, rfl, HL, HW⟩ := hrel
        have hsz := HW.out.size
        have hol : (G ++ turnE es (fs.take k)).length ≤ 80 := by
          rw [List.length_append, turnE_eq]
          have := List.length_filter_le (turnF es) (fs.take k)
          rw [List.length_take] at this
          omega
        obtain ⟨O, hO⟩ : ∃ O, O = G ++ turnE es (fs.take k) := ⟨_, rfl⟩
        rw [← hO] at HL hol
        have HO := hide hO
        clear hO
        obtain ⟨ov, oc, hv⟩ := HL.out.shape
        subst hv
        by_cases hlt : k < fs.length
        · obtain ⟨bb, off, e, x, cc, rfl, hb, he, c0, c1, c2, c3, hr⟩ := (HR2.out.below HW.out).at hlt
          obtain ⟨bb', off', e', x', cc', hbb, hb', he', d0, d1, d2, d3, hr'⟩ := HR2.out.at hlt
          simp only [Option.some.injEq, Addr.mk.injEq, and_true] at hbb
          obtain ⟨rfl, rfl⟩ := hbb
          have : e' = e := Option.some.inj (he'.symm.trans he)
          subst this
          have d3' := (HW.out.cell (p := ⟨bb, off + k * 4 + 3, none⟩) hb').trans d3
          rw [c3] at d3'
          simp only [Option.some.injEq, Value.slice.injEq, true_and] at d3'
          obtain ⟨rfl, rfl⟩ := d3'
          have hem := List.mem_of_getElem? he
          have HX := hide he
          have HRc := hide hr'
          have RE := hide ((HR2.out.below HW.out).one he)
          have HAT := hide (l4At_any a c es.length es e'.path wr (HR.out.below HW.out) rfl (by omega))
          have HC := hide (show (∀ u : World, Below wr.heap.size wr u → u.cell? ⟨bb, off + k * 4, none⟩ = some (.string (str e'.path)) ∧ u.cell? ⟨bb, off + k * 4 + 1, none⟩ = some (.int .i64 e'.kind) ∧ u.cell? ⟨bb, off + k * 4 + 2, none⟩ = some (.int .i64 e'.size) ∧ u.cell? ⟨bb, off + k * 4 + 3, none⟩ = some (.slice x e'.chunks.length cc)) from fun u hu => ⟨(hu.cell (p := ⟨bb, off + k * 4, none⟩) hb).trans c0, (hu.cell (p := ⟨bb, off + k * 4 + 1, none⟩) hb).trans c1, (hu.cell (p := ⟨bb, off + k * 4 + 2, none⟩) hb).trans c2, (hu.cell (p := ⟨bb, off + k * 4 + 3, none⟩) hb).trans c3⟩)
          have hk0 : (0 : Int) ≤ (k : Int) := by omega
          have hk1 : (k : Int) < (fs.length : Int) := by omega
          clear he hr he' hr' d0 d1 d2 d3 c1 c2 c3
          cases hat : atE es e'.path with
          | none =>
            have hg := turnF_none hat
            have HN := hide (show G ++ turnE es (fs.take (k + 1)) = O ++ [e'] from by rw [HO.out, turnE_eq, turnE_eq, filt_in HX.out hg, List.append_assoc])
            rw [hat] at HAT
            have e1 : placeI none = -1 := rfl
            rw [e1] at HAT
            clear hat e1 hg
            go_wp2_with fail
            refine HAT.out.mono ?_
            rintro r w1 ⟨rfl, hw1⟩
            have hw2 := hw1.symm
            clear hw1
            subst hw2
            go_wp2_with fail
            go_quiet (fail)
            have HWq := hide (below_drewN (Below.refl wr.heap.size wr) nq)
            generalize wr.drewN nq = W5 at *
            have hs5 := HWq.out.size
            obtain ⟨p0, p1, p2, p3⟩ := HC.out _ HWq.out
            obtain ⟨rs, g1, g2, g3⟩ := HL.out
            have G1 := hide g1
            have G2 := hide (ownsRow_below g2 HWq.out)
            have G3 := hide g3
            clear g1 g2 g3
            obtain ⟨LL, hLL⟩ : ∃ LL, LL = O.length := ⟨_, rfl⟩
            rw [← hLL] at hol G2 ⊢
            have HLn := hide hLL
            clear hLL
            have hm1 : LL + 1 ≤ maxLen := by unfold maxLen; omega
            have hm1' : (LL + 1) * 56 ≤ 140737488355328 := by omega
            go_wp2_with (at_builtin; refine wpList_append_put rfl (.tmp 79) (.tmp 84) 24 rfl w.heap.size 53 i1 (.agg #[.string ⟨#[]⟩, .int .i64 0, .int .i64 0, .slice none 0 0]) 4 56 Tryz.underlying24 ki kz0 kz1 kz2 rfl (by decide) _ _ _ rfl G2.out _ rfl rfl rfl (by intro u hu; simp at hu; rcases hu with rfl | rfl | rfl | rfl <;> rfl) hm1 hm1' (by omega) ?_; intro av6 cv6 w6 hown6 hk6; have O6 := hide hown6; have K6 := hide hk6; clear hown6 hk6)
            go_roundw
            case rel =>
              refine ⟨k + 1, by omega, by go_num, hide ?_, hide ?_⟩
              · rw [HN.out]
                exact LE.push (e := e') (a := x) (c := cc) G1.out HLn.out G3.out HRc.out O6.out
              · exact (below_next HW.out HWq.out).trans (K6.out.below (by omega) (fun q hq hS => by have := (G2.out.lt q hS).1; omega))
            case measure => simp [intOf]; omega
          | some j =>
            obtain ⟨y, hy, hfy, hyp⟩ := at_some hat
            have hj := atE_lt hat
            have HTF := hide (turnF_some HRT.out hy hyp)
            rw [hat] at HAT
            have e1 : placeI (some j) = (j : Int) := rfl
            rw [e1] at HAT
            obtain ⟨ab, ao, y', yx, yc, rfl, hab, hy', -⟩ := (HR.out.below HW.out).at hj
            have RY := hide ((HR.out.below HW.out).one hy)
            have hsy : SmallE [y] := fun z hz => by simp only [List.mem_singleton] at hz; subst hz; exact HRT.out.small _ (List.mem_of_getElem? hy)
            have hse : SmallE [e'] := fun z hz => by simp only [List.mem_singleton] at hz; subst hz; exact HRT2.out.small _ hem
            have HSAME := hide (fun (u : World) (hb' : Below wr.heap.size wr u) => l4Same_any (some ⟨ab, ao + j * 4, none⟩) (some ⟨bb, off + k * 4, none⟩) (c - j) (d - k) 1 1 [y] [e'] u (RY.out.below hb') (RE.out.below hb') rfl rfl (by simp) (by simp) hsy hse)
            have hj0 : (0 : Int) ≤ (j : Int) := by omega
            have hjn : ¬ (j : Int) < 0 := by omega
            have hjd : decide ((j : Int) < 0) = false := decide_eq_false hjn
            have hj1 : IntKind.i64.wrap ((j : Int) + 1) = (j : Int) + 1 := by simp [IntKind.wrap, IntKind.signed, IntKind.bits]; omega
            have hj2 : (0 : Int) ≤ (j : Int) + 1 := by omega
            have hj3 : ((j : Int) + 1).toNat = j + 1 := by omega
            have hj4 : j + 1 ≤ c := by omega
            have hj4i : (j : Int) + 1 ≤ (c : Int) := by omega
            have hj5 : (j : Int) ≤ (j : Int) + 1 := by omega
            have hjc : (j : Int) ≤ (c : Int) := by omega
            have hq1 : IntKind.i64.wrap ((k : Int) + 1) = (k : Int) + 1 := by simp [IntKind.wrap, IntKind.signed, IntKind.bits]; omega
            have hq2 : (0 : Int) ≤ (k : Int) + 1 := by omega
            have hq3 : ((k : Int) + 1).toNat = k + 1 := by omega
            have hq4 : k + 1 ≤ d := by omega
            have hq4i : (k : Int) + 1 ≤ (d : Int) := by omega
            have hq5 : (k : Int) ≤ (k : Int) + 1 := by omega
            have hqc : (k : Int) ≤ (d : Int) := by omega
            have hcj : ¬ j = c := by omega
            have hdk : ¬ k = d := by omega
            clear hat e1 hy hfy hy'
            obtain ⟨Z, hZ⟩ : ∃ Z : Bool, Z = decide ([y] = [e']) := ⟨_, rfl⟩
            rw [← hZ] at HTF HSAME
            clear hZ
            go_wp2_with fail
            refine HAT.out.mono ?_
            rintro r w1 ⟨rfl, hw1⟩
            have hw2 := hw1.symm
            clear hw1
            subst hw2
            go_wp2_with fail
            refine wp_region_held_drew (S := fun _ => True) (by kernel_rfl) trivial (fun hHeld => ?_)
            change wpAnyH _ _ _ _ _ _ (Array.replicate _ false) _ _
            refine wpAnyH_take (i := 0) (oi := { dst := some 63, op := _, type := _, pos := _, after := _, guard := _ }) (v := .int .i64 j) rfl (by kernel_rfl) (by kernel_rfl) (by kernel_rfl) (fun _ _ _ h => h) (Or.inl ⟨by rfl, ?_⟩) hHeld ?_
            · intro w hSw
              go_simp <;> (first | done | (intro _; omega))
            try simp only [Act.put, List.setIfInBounds_toArray, List.set_cons_zero, List.set_cons_succ]
            refine wpAnyH_take (i := 1) (oi := { dst := some 64, op := _, type := _, pos := _, after := _, guard := _ }) (v := .bool false) rfl (by kernel_rfl) (by kernel_rfl) (by kernel_rfl) (fun _ _ _ h => h) (Or.inl ⟨by rfl, ?_⟩) hHeld ?_
            · intro w hSw
              go_simp <;> (first | done | (intro _; omega))
            try simp only [Act.put, List.setIfInBounds_toArray, List.set_cons_zero, List.set_cons_succ]
            refine wpAnyH_take (i := 2) (oi := { dst := some 65, op := _, type := _, pos := _, after := _, guard := _ }) (v := .bool false) rfl (by kernel_rfl) (by kernel_rfl) (by kernel_rfl) (fun _ _ _ h => h) (Or.inl ⟨by rfl, ?_⟩) hHeld ?_
            · intro w hSw
              go_simp <;> (first | done | (intro _; omega))
            try simp only [Act.put, List.setIfInBounds_toArray, List.set_cons_zero, List.set_cons_succ]
            refine wpAnyH_take (i := 3) (oi := { dst := some 66, op := _, type := _, pos := _, after := _, guard := _ }) (v := .slice (some ⟨ab, ao, none⟩) es.length c) rfl (by kernel_rfl) (by kernel_rfl) (by kernel_rfl) (fun _ _ _ h => h) (Or.inl ⟨by rfl, ?_⟩) hHeld ?_
            · intro w hSw
              go_simp <;> (first | done | (intro _; omega))
            try simp only [Act.put, List.setIfInBounds_toArray, List.set_cons_zero, List.set_cons_succ]
            refine wpAnyH_take (i := 4) (oi := { dst := some 67, op := _, type := _, pos := _, after := _, guard := _ }) (v := .int .i64 j) rfl (by kernel_rfl) (by kernel_rfl) (by kernel_rfl) (fun _ _ _ h => h) (Or.inl ⟨by rfl, ?_⟩) hHeld ?_
            · intro w hSw
              go_simp <;> (first | done | (intro _; omega))
            try simp only [Act.put, List.setIfInBounds_toArray, List.set_cons_zero, List.set_cons_succ]
            refine wpAnyH_take (i := 5) (oi := { dst := some 68, op := _, type := _, pos := _, after := _, guard := _ }) (v := .int .i64 j) rfl (by kernel_rfl) (by kernel_rfl) (by kernel_rfl) (fun _ _ _ h => h) (Or.inl ⟨by rfl, ?_⟩) hHeld ?_
            · intro w hSw
              go_simp <;> (first | done | (intro _; omega))
            try simp only [Act.put, List.setIfInBounds_toArray, List.set_cons_zero, List.set_cons_succ]
            refine wpAnyH_take (i := 6) (oi := { dst := some 69, op := _, type := _, pos := _, after := _, guard := _ }) (v := .int .i64 ((j : Int) + 1)) rfl (by kernel_rfl) (by kernel_rfl) (by kernel_rfl) (fun _ _ _ h => h) (Or.inl ⟨by rfl, ?_⟩) hHeld ?_
            · intro w hSw
              go_simp <;> (first | done | (intro _; omega))
            try simp only [Act.put, List.setIfInBounds_toArray, List.set_cons_zero, List.set_cons_succ]
            refine wpAnyH_take (i := 7) (oi := { dst := some 70, op := _, type := _, pos := _, after := _, guard := _ }) (v := .slice (some ⟨ab, ao + j * 4, none⟩) 1 (c - j)) rfl (by kernel_rfl) (by kernel_rfl) (by kernel_rfl) (fun _ _ _ h => h) (Or.inl ⟨by rfl, ?_⟩) hHeld ?_
            · intro w hSw
              go_simp <;> (first | done | (intro _; omega))
            try simp only [Act.put, List.setIfInBounds_toArray, List.set_cons_zero, List.set_cons_succ]
            refine wpAnyH_take (i := 8) (oi := { dst := some 71, op := _, type := _, pos := _, after := _, guard := _ }) (v := .slice (some ⟨bb, off, none⟩) fs.length d) rfl (by kernel_rfl) (by kernel_rfl) (by kernel_rfl) (fun _ _ _ h => h) (Or.inl ⟨by rfl, ?_⟩) hHeld ?_
            · intro w hSw
              go_simp <;> (first | done | (intro _; omega))
            try simp only [Act.put, List.setIfInBounds_toArray, List.set_cons_zero, List.set_cons_succ]
            refine wpAnyH_take (i := 9) (oi := { dst := some 72, op := _, type := _, pos := _, after := _, guard := _ }) (v := .int .i64 k) rfl (by kernel_rfl) (by kernel_rfl) (by kernel_rfl) (fun _ _ _ h => h) (Or.inl ⟨by rfl, ?_⟩) hHeld ?_
            · intro w hSw
              go_simp <;> (first | done | (intro _; omega))
            try simp only [Act.put, List.setIfInBounds_toArray, List.set_cons_zero, List.set_cons_succ]
            refine wpAnyH_take (i := 10) (oi := { dst := some 73, op := _, type := _, pos := _, after := _, guard := _ }) (v := .int .i64 k) rfl (by kernel_rfl) (by kernel_rfl) (by kernel_rfl) (fun _ _ _ h => h) (Or.inl ⟨by rfl, ?_⟩) hHeld ?_
            · intro w hSw
              go_simp <;> (first | done | (intro _; omega))
            try simp only [Act.put, List.setIfInBounds_toArray, List.set_cons_zero, List.set_cons_succ]
            refine wpAnyH_take (i := 11) (oi := { dst := some 74, op := _, type := _, pos := _, after := _, guard := _ }) (v := .int .i64 ((k : Int) + 1)) rfl (by kernel_rfl) (by kernel_rfl) (by kernel_rfl) (fun _ _ _ h => h) (Or.inl ⟨by rfl, ?_⟩) hHeld ?_
            · intro w hSw
              go_simp <;> (first | done | (intro _; omega))
            try simp only [Act.put, List.setIfInBounds_toArray, List.set_cons_zero, List.set_cons_succ]
            refine wpAnyH_take (i := 12) (oi := { dst := some 75, op := _, type := _, pos := _, after := _, guard := _ }) (v := .slice (some ⟨bb, off + k * 4, none⟩) 1 (d - k)) rfl (by kernel_rfl) (by kernel_rfl) (by kernel_rfl) (fun _ _ _ h => h) (Or.inl ⟨by rfl, ?_⟩) hHeld ?_
            · intro w hSw
              go_simp <;> (first | done | (intro _; omega))
            try simp only [Act.put, List.setIfInBounds_toArray, List.set_cons_zero, List.set_cons_succ]
            refine wpAnyH_ready (rs := [13]) (by kernel_rfl) (by simp) ?_
            refine AllReadyH.cons rfl (fun K hK => ?_) AllReadyH.nil
            go_simp
            refine (HSAME.out _ (Below.refl _ _).drew).mono ?_
            rintro r W5 ⟨rfl, hb4⟩
            have HWq := hide ((Below.refl wr.heap.size wr).drew.trans hb4)
            clear hb4
            go_wp2_with fail
            refine hK.out _ _ trivial (fun hHeld => ?_)
            clear hK K
            try simp only [Act.put, List.setIfInBounds_toArray, List.set_cons_zero, List.set_cons_succ]
            refine wpAnyH_take (i := 14) (oi := { dst := some 77, op := _, type := _, pos := _, after := _, guard := _ }) (v := .bool (!Z)) rfl (by kernel_rfl) (by kernel_rfl) (by kernel_rfl) (fun _ _ _ h => h) (Or.inl ⟨by rfl, ?_⟩) hHeld ?_
            · intro w hSw
              go_simp <;> (first | done | (intro _; omega))
            try simp only [Act.put, List.setIfInBounds_toArray, List.set_cons_zero, List.set_cons_succ]
            refine wpAnyH_take (i := 15) (oi := { dst := some 78, op := _, type := _, pos := _, after := _, guard := _ }) (v := .bool (!Z)) rfl (by kernel_rfl) (by kernel_rfl) (by kernel_rfl) (fun _ _ _ h => h) (Or.inl ⟨by rfl, ?_⟩) hHeld ?_
            · intro w hSw
              go_simp <;> (first | done | (intro _; omega))
            try simp only [Act.put, List.setIfInBounds_toArray, List.set_cons_zero, List.set_cons_succ]
            refine wpAnyH_done (by kernel_rfl) ?_ _
            cases Z
            · have hg : turnF es e' = true := HTF.out
              have HN := hide (show G ++ turnE es (fs.take (k + 1)) = O ++ [e'] from by rw [HO.out, turnE_eq, turnE_eq, filt_in HX.out hg, List.append_assoc])
              clear hg
              have hs5 := HWq.out.size
              obtain ⟨p0, p1, p2, p3⟩ := HC.out _ HWq.out
              obtain ⟨rs, g1, g2, g3⟩ := HL.out
              have G1 := hide g1
              have G2 := hide (ownsRow_below g2 HWq.out)
              have G3 := hide g3
              clear g1 g2 g3
              obtain ⟨LL, hLL⟩ : ∃ LL, LL = O.length := ⟨_, rfl⟩
              rw [← hLL] at hol G2 ⊢
              have HLn := hide hLL
              clear hLL
              have hm1 : LL + 1 ≤ maxLen := by unfold maxLen; omega
              have hm1' : (LL + 1) * 56 ≤ 140737488355328 := by omega
              go_wp2_with (at_builtin; refine wpList_append_put rfl (.tmp 79) (.tmp 84) 24 rfl w.heap.size 53 i1 (.agg #[.string ⟨#[]⟩, .int .i64 0, .int .i64 0, .slice none 0 0]) 4 56 Tryz.underlying24 ki kz0 kz1 kz2 rfl (by decide) _ _ _ rfl G2.out _ rfl rfl rfl (by intro u hu; simp at hu; rcases hu with rfl | rfl | rfl | rfl <;> rfl) hm1 hm1' (by omega) ?_; intro av6 cv6 w6 hown6 hk6; have O6 := hide hown6; have K6 := hide hk6; clear hown6 hk6)
              go_roundw
              case rel =>
                refine ⟨k + 1, by omega, by go_num, hide ?_, hide ?_⟩
                · rw [HN.out]
                  exact LE.push (e := e') (a := x) (c := cc) G1.out HLn.out G3.out HRc.out O6.out
                · exact (below_next HW.out HWq.out).trans (K6.out.below (by omega) (fun q hq hS => by have := (G2.out.lt q hS).1; omega))
              case measure => simp [intOf]; omega
            · have hg : turnF es e' = false := HTF.out
              have HN := hide (show G ++ turnE es (fs.take (k + 1)) = O from by rw [HO.out, turnE_eq, turnE_eq, filt_out HX.out hg])
              clear hg
              go_wp2_with fail
              go_roundw
              case rel => exact ⟨k + 1, by omega, by go_num, hide (by rw [HN.out]; exact (let ⟨rs, g1, g2, g3⟩ := HL.out; ⟨rs, g1, ownsRow_below g2 HWq.out, g3⟩)), hide (below_next HW.out HWq.out)⟩
              case measure => simp [intOf]; omega
        · have HE := hide (show fs.take k = fs from List.take_of_length_le (by omega))
          rw [HE.out] at HO
          have HOM := hide (show O = outM es fs from by rw [HO.out, ← HGe.out]; rfl)
          have ROut := hide ((HL.out.se HW.out).rd)
          clear HE HO
          have hOl := hol
          have HSO := hide (show SmallE O from fun z hz => by
            rw [HOM.out] at hz
            have hz2 := mem_outM.1 hz
            rcases diffU_mem.1 hz2 with ⟨h1, -⟩ | ⟨q, hq, -, -, rfl⟩
            · exact HRT2.out.small z h1
            · exact ⟨(HRT.out.small q hq).1, by simp [whiteE]⟩)
          have HPO := hide (show ∀ z ∈ O, faultP z.path = 0 from fun z hz => by
            rw [HOM.out] at hz
            exact diffU_path HRT.out HRT2.out (mem_outM.1 hz))
          have HDH := hide (dirs_homes HRT.out HRT2.out)
          have HLEN := hide (show (diffE es fs).length = O.length + (homesE fs (diffU es fs)).length from by rw [diff_length HRT.out HRT2.out, diffA, List.length_append, HOM.out, outM_len])
          rw [← HOM.out] at HDH
          clear HL hsz HR HR2
          go_wp2_with fail
          clear hlt hk
          obtain ⟨W2, hW2⟩ : ∃ W2, W2 = wr := ⟨_, rfl⟩
          subst hW2
          go_loopw [9, 10] (fun v i w3 => ∃ k : Nat, k ≤ O.length ∧ i = .int .i64 k ∧ Hid (SE W2.heap.size w3 v (dirsOf O ((O.take k).flatMap upsE))) ∧ Hid (∃ g, v.ownBlock = some g) ∧ Hid (Below W2.heap.size W2 w3)) (fun _ i _ => O.length - (intOf i).toNat)
          case atStart => exact ⟨0, Nat.zero_le _, rfl, hide (by simpa [dirsOf] using SE.made W2), hide ⟨_, rfl⟩, hide (below_alloc _ _)⟩
          case round =>
            obtain ⟨k, hk, rfl, HF, HB, HW3⟩ := hrel
            by_cases hlt : k < O.length
            · obtain ⟨ob, oo, e, ox, ocap, rfl, hob, he, c0, c1, c2, c3, hr⟩ := (ROut.out.below HW3.out).at hlt
              have hep := HPO.out e (List.mem_of_getElem? he)
              have hpl := (HSO.out e (List.mem_of_getElem? he)).1
              have hp1 := path_pos hep
              have HX := hide he
              have HAB := hide (fun (u : World) => l3Above_any (str e.path) u (by rw [str_size]; omega) (by rw [str_size]; omega))
              have e0 : aboveN (cutB (str e.path).data.toList.tail) = upsE e := by rw [str_data]; rfl
              rw [e0] at HAB
              have hul := ups_len hep
              have hk0 : (0 : Int) ≤ (k : Int) := by omega
              have hk1 : (k : Int) < (O.length : Int) := by omega
              clear he hr c1 c2 c3 e0
              obtain ⟨fv, fc, hv⟩ := HF.out.shape
              subst hv
              go_wp2_with fail
              refine (HAB.out _).mono ?_
              rintro r w4 ⟨uv, rfl, hO4, hb4⟩
              obtain ⟨ua, uc, rfl⟩ := ownsRow_shape hO4
              have RU := hide hO4.reads
              have BB4 := hide (below_next HW3.out hb4)
              have HF4 := hide (HF.out.below hb4)
              clear hO4 hb4 c0 HAB HF HW3
              go_wp2_with fail
              go_loopw [9, 12] (fun v i w5 => ∃ j : Nat, j ≤ (upsE e).length ∧ i = .int .i64 j ∧ Hid (SE W2.heap.size w5 v (dirsOf O ((O.take k).flatMap upsE ++ (upsE e).take j))) ∧ Hid (∃ g, v.ownBlock = some g) ∧ Hid (Below w4.heap.size w4 w5)) (fun _ i _ => (upsE e).length - (intOf i).toNat)
              case atStart => exact ⟨0, Nat.zero_le _, rfl, hide (by simpa using HF4.out), HB, hide (Below.refl _ _)⟩
              case round =>
                clear HF4 HB
                obtain ⟨j, hj, rfl, HF, HB, HW5⟩ := hrel
                have BB5 := hide (below_next BB4.out HW5.out)
                have HPP := hide (show ∀ p ∈ (O.take k).flatMap upsE ++ (upsE e).take j, faultP p = 0 from fun p hp => by
                  rcases List.mem_append.1 hp with hp | hp
                  · exact flat_path (fun z hz => HPO.out z (List.mem_of_mem_take hz)) p hp
                  · exact ups_path hep p (List.mem_of_mem_take hp))
                have hfl : (dirsOf O ((O.take k).flatMap upsE ++ (upsE e).take j)).length ≤ 4000 := by
                  have h1 := (dirsOf_facts O ((O.take k).flatMap upsE ++ (upsE e).take j)).2.1
                  have h3 := flat_len (O.take k) (fun z hz => ups_len (HPO.out z (List.mem_of_mem_take hz)))
                  rw [List.length_append, List.length_take] at h1
                  rw [List.length_take] at h3
                  have h4 : min k O.length ≤ 80 := by omega
                  have h5 : min k O.length * 40 ≤ 80 * 40 := Nat.mul_le_mul_right _ h4
                  omega
                have HSF := hide (dirs_small (O := O) HPP.out)
                obtain ⟨F, hF⟩ : ∃ F, F = dirsOf O ((O.take k).flatMap upsE ++ (upsE e).take j) := ⟨_, rfl⟩
                rw [← hF] at HF hfl HSF
                have HFe := hide hF
                clear hF
                obtain ⟨fv, fc, hv⟩ := HF.out.shape
                subst hv
                by_cases hlt2 : j < (upsE e).length
                · obtain ⟨ub, uo, p, rfl, hub, hp, hcu⟩ := (RU.out.below HW5.out).at hlt2
                  have hpf := ups_path hep p (List.mem_of_getElem? hp)
                  have hpl := path_15 hpf
                  have HN := hide (show dirsOf O ((O.take k).flatMap upsE ++ (upsE e).take (j + 1)) = stepD O F p from by rw [take_ups hp, ← List.append_assoc, dirsOf_snoc, HFe.out])
                  have HA1 := hide (l4At_any (some ⟨ob, oo, none⟩) oc O.length O p wr (ROut.out.below BB5.out) rfl (by omega))
                  have HA2 := hide (l4At_any fv fc F.length F p wr HF.out.rd rfl (by omega))
                  have hj0 : (0 : Int) ≤ (j : Int) := by omega
                  have hj1 : (j : Int) < ((upsE e).length : Int) := by omega
                  clear hp
                  cases ha1 : atE O p with
                  | some q =>
                    have HN2 := hide (show stepD O F p = F from by rw [stepD, at_atP' ha1]; rfl)
                    rw [ha1] at HA1
                    have e1 : placeI (some q) = (q : Int) := rfl
                    rw [e1] at HA1
                    have hq0 : ¬ (q : Int) < 0 := by omega
                    clear ha1 e1
                    go_wp2_with fail
                    refine HA1.out.mono ?_
                    rintro r w6 ⟨rfl, hw6⟩
                    have hw7 := hw6.symm
                    clear hw6
                    subst hw7
                    go_wp2_with fail
                    go_roundw
                    case rel => exact ⟨j + 1, by omega, by go_num, hide (by rw [HN.out, HN2.out]; exact HF.out), HB, HW5⟩
                    case measure => simp [intOf]; omega
                  | none =>
                    have hat1 := at_atP.1 ha1
                    rw [ha1] at HA1
                    have e1 : placeI none = -1 := rfl
                    rw [e1] at HA1
                    clear ha1 e1
                    cases ha2 : atE F p with
                    | some q =>
                      have HN2 := hide (show stepD O F p = F from by rw [stepD, hat1, at_atP' ha2]; rfl)
                      rw [ha2] at HA2
                      have e1 : placeI (some q) = (q : Int) := rfl
                      rw [e1] at HA2
                      have hq0 : ¬ (q : Int) < 0 := by omega
                      clear ha2 e1 hat1
                      go_wp2_with fail
                      refine HA1.out.mono ?_
                      rintro r w6 ⟨rfl, hw6⟩
                      have hw7 := hw6.symm
                      clear hw6
                      subst hw7
                      go_wp2_with fail
                      refine HA2.out.mono ?_
                      rintro r w6 ⟨rfl, hw6⟩
                      have hw7 := hw6.symm
                      clear hw6
                      subst hw7
                      go_wp2_with fail
                      go_roundw
                      case rel => exact ⟨j + 1, by omega, by go_num, hide (by rw [HN.out, HN2.out]; exact HF.out), HB, HW5⟩
                      case measure => simp [intOf]; omega
                    | none =>
                      have HN2 := hide (show stepD O F p = putE F (dirE p) from by rw [stepD, hat1, at_atP.1 ha2]; rfl)
                      rw [ha2] at HA2
                      have e1 : placeI none = -1 := rfl
                      rw [e1] at HA2
                      clear ha2 e1 hat1
                      go_wp2_with fail
                      refine HA1.out.mono ?_
                      rintro r w6 ⟨rfl, hw6⟩
                      have hw7 := hw6.symm
                      clear hw6
                      subst hw7
                      go_wp2_with fail
                      refine HA2.out.mono ?_
                      rintro r w6 ⟨rfl, hw6⟩
                      have hw7 := hw6.symm
                      clear hw6
                      subst hw7
                      go_wp2_with fail
                      refine (show Calls Tryz.prog 46 #[.slice fv F.length fc, .agg #[.string (str p), .int .i64 2, .int .i64 0, .slice none 0 0]] wr _ from l4Put_any fv fc F.length F (dirE p) none 0 0 wr HF.out.rd rfl (by omega) HSF.out rfl (fun hne => absurd rfl hne) (by show p.length ≤ 1048576; omega) (by simp [dirE])).mono ?_
                      rintro r w6 ⟨g6, cv6, rfl, hG6, hb6⟩
                      have hsz6 := BB5.out.size
                      have SE6 := hide ((hG6.mono hsz6).se)
                      have BB6 := hide (below_next HW5.out hb6)
                      clear hG6 hb6
                      go_wp2_with fail
                      go_roundw
                      case rel => exact ⟨j + 1, by omega, by go_num, hide (by rw [HN.out, HN2.out]; exact SE6.out), hide ⟨g6, rfl⟩, BB6⟩
                      case measure => simp [intOf]; omega
                · have HE2 := hide (show (O.take (k + 1)).flatMap upsE = (O.take k).flatMap upsE ++ (upsE e).take j from by
                    have h9 : (upsE e).take j = upsE e := List.take_of_length_le (by omega)
                    rw [take_next HX.out, List.flatMap_append, h9]
                    simp)
                  go_wp2_with fail
                  go_roundw
                  case rel => exact ⟨k + 1, by omega, by go_num, hide (by rw [HE2.out, ← HFe.out]; exact HF.out), HB, BB5⟩
                  case measure => simp [intOf]; omega
            · have HE3 := hide (show O.take k = O from List.take_of_length_le (by omega))
              rw [HE3.out, HDH.out] at HF
              have hHl : (homesE fs (diffU es fs)).length ≤ 40 := by
                have : (homesE fs (diffU es fs)).length ≤ fs.length := List.length_filter_le _ _
                omega
              have HSH := hide (show SmallE (homesE fs (diffU es fs)) from fun z hz => HRT2.out.small z (List.mem_filter.1 hz).1)
              generalize homesE fs (diffU es fs) = HH at *
              clear HE3 HDH
              go_wp2_with fail
              clear hlt hk
              go_loopw [9, 13] (fun v i w5 => ∃ (k : Nat) (F : List En), k ≤ O.length ∧ i = .int .i64 k ∧ F.length = HH.length + k ∧ Hid (SmallE F) ∧ Hid (SE W2.heap.size w5 v F) ∧ Hid (∃ g, v.ownBlock = some g) ∧ Hid (Below W2.heap.size W2 w5)) (fun _ i _ => O.length - (intOf i).toNat)
              case atStart => exact ⟨0, HH, Nat.zero_le _, rfl, by omega, HSH, HF, HB, HW3⟩
              case round =>
                clear HF HB HW3 HSH
                obtain ⟨k, F, hk, rfl, hFl, HSF, HF, HB, HW5⟩ := hrel
                have hfl : F.length ≤ 200 := by omega
                have HFL := hide hFl
                clear hFl
                obtain ⟨fv, fc, hv⟩ := HF.out.shape
                subst hv
                obtain ⟨g5, h5, hfc⟩ : ∃ g, fv = some ⟨g, 0, none⟩ ∧ F.length ≤ fc := by
                  obtain ⟨rs, _, h1, _⟩ := HF.out
                  exact row_addr h1 (.inr HB.out)
                subst h5
                by_cases hlt : k < O.length
                · obtain ⟨ob, oo, e, ox, ocap, rfl, hob, he, c0, c1, c2, c3, hr⟩ := (ROut.out.below HW5.out).at hlt
                  have HX := hide he
                  have HRx := hide hr
                  have HCE := hide (show ∀ w' : World, Below wr.heap.size wr w' → w'.cell? ⟨ob, oo + k * 4, none⟩ = some (.string (str e.path)) ∧ w'.cell? ⟨ob, oo + k * 4 + 1, none⟩ = some (.int .i64 e.kind) ∧ w'.cell? ⟨ob, oo + k * 4 + 2, none⟩ = some (.int .i64 e.size) ∧ w'.cell? ⟨ob, oo + k * 4 + 3, none⟩ = some (.slice ox e.chunks.length ocap) from fun u hu => ⟨(hu.cell (p := ⟨ob, oo + k * 4, none⟩) hob).trans c0, (hu.cell (p := ⟨ob, oo + k * 4 + 1, none⟩) hob).trans c1, (hu.cell (p := ⟨ob, oo + k * 4 + 2, none⟩) hob).trans c2, (hu.cell (p := ⟨ob, oo + k * 4 + 3, none⟩) hob).trans c3⟩)
                  have hk0 : (0 : Int) ≤ (k : Int) := by omega
                  have hk1 : (k : Int) < (O.length : Int) := by omega
                  clear he hr c0 c1 c2 c3
                  go_wp2_with fail
                  obtain ⟨W4, hW4⟩ : ∃ W4, W4 = wr := ⟨_, rfl⟩
                  subst hW4
                  go_loopw [14] (fun i w6 => ∃ j : Nat, j ≤ F.length ∧ i = .int .i64 j ∧ Hid (Below W4.heap.size W4 w6)) (fun i _ => F.length - (intOf i).toNat)
                  case atStart => exact ⟨0, Nat.zero_le _, rfl, hide (Below.refl _ _)⟩
                  case round =>
                    obtain ⟨j, hj, rfl, HWr⟩ := hrel
                    obtain ⟨ce0, -, -, -⟩ := HCE.out _ HWr.out
                    by_cases hlt2 : j < F.length
                    · obtain ⟨yb, yo, y, yx, yc, hbb, hyb, hy, y0, -, -, -, -⟩ := (HF.out.rd.below HWr.out).at hlt2
                      simp only [Option.some.injEq, Addr.mk.injEq, and_true] at hbb
                      obtain ⟨rfl, rfl⟩ := hbb
                      rw [Nat.zero_add] at y0
                      have hj0 : (0 : Int) ≤ (j : Int) := by omega
                      have hj1 : (j : Int) < (F.length : Int) := by omega
                      clear hy
                      cases hlo : Op.bytesLess (str y.path).toList (str e.path).toList
                      · go_wp2_with fail
                        go_quiet (fail)
                        have HWj := hide (below_drewN HWr.out nq)
                        clear y0 ce0 HWr hlo hlt2
                        generalize wr.drewN nq = W5 at *
                        obtain ⟨rs, g1, g2, g3⟩ := HF.out
                        have G1 := hide g1
                        have G2 := hide (ownsRow_below g2 HWj.out)
                        have G3 := hide (show ∀ r ∈ rs, Reads .i64 W5 r.a r.e.chunks from fun r hr => (g3 r hr).below HWj.out)
                        have hrsl : rs.length = F.length := by rw [← g1, List.length_map]
                        clear g1 g2 g3
                        have OWN0 : Hid ((W5.alloc (.cells #[] 53)).ownsRow W5.heap.size 53 4 (.slice (some ⟨W5.heap.size, 0, none⟩) 0 0) 0 []) := World.ownsRow_made W5 #[] 0 (Nat.le_refl _) (Nat.zero_le _) rfl
                        have NEWS0 : Hid (∀ i u, (rowR (rs.take j))[i]? = some u → (W5.alloc (.cells #[] 53)).cell? ((⟨g5, 0, none⟩ : Addr).add i) = some u) := hide (by
                          have := row_news (k := 0) G2.out (below_alloc W5 (.cells #[] 53)) (rowR (rs.take j)) (fun i u hi => by
                            rw [← rowR_take] at hi
                            rw [Nat.zero_mul, Nat.zero_add]
                            rw [List.getElem?_take] at hi
                            split at hi
                            · exact hi
                            · cases hi)
                          simpa using this)
                        have hln0 : (rowR (rs.take j)).length = j * 4 := by rw [rowR_length, List.length_take]; congr 1; omega
                        have hm0 : 0 + j ≤ maxLen := by unfold maxLen; omega
                        have hm0' : (0 + j) * 56 ≤ 140737488355328 := by omega
                        have hkc : (j : Int) ≤ (fc : Int) := by omega
                        go_wp2_with (at_builtin; refine wpList_append_list rfl (.tmp 153) (.tmp 156) 24 rfl W5.heap.size 53 i1 (.agg #[.string ⟨#[]⟩, .int .i64 0, .int .i64 0, .slice none 0 0]) 4 56 Tryz.underlying24 ki kz0 kz1 kz2 rfl (by decide) (.slice (some ⟨W5.heap.size, 0, none⟩) 0 0) 0 [] rfl OWN0.out ⟨g5, 0, none⟩ j fc (rowR (rs.take j)) rfl hln0 NEWS0.out (rowR_one _) j (by simp) hm0 hm0' (by simp) ?_; intro av6 cv6 w6 hown6 hk6; have O6 := hide hown6; have K6 := hide hk6; clear hown6 hk6)
                        have BW6 := hide ((below_alloc W5 (.cells #[] 53)).trans (K6.out.below (by simp) (fun q hq hS => by simp [Value.ownBlock] at hS; omega)))
                        have hs6 := BW6.out.size
                        have KC : Hid (∀ w' : World, Below W5.heap.size W5 w' → w'.cell? ⟨ob, oo + k * 4, none⟩ = some (.string (str e.path)) ∧ w'.cell? ⟨ob, oo + k * 4 + 1, none⟩ = some (.int .i64 e.kind) ∧ w'.cell? ⟨ob, oo + k * 4 + 2, none⟩ = some (.int .i64 e.size) ∧ w'.cell? ⟨ob, oo + k * 4 + 3, none⟩ = some (.slice ox e.chunks.length ocap)) := hide (fun w' hb' => HCE.out _ (below_next HWj.out hb'))
                        obtain ⟨p0, p1, p2, p3⟩ := KC.out _ BW6.out
                        have OWN1 : Hid ((w6.alloc (.cells #[.string (str e.path), .int .i64 e.kind, .int .i64 e.size, .slice ox e.chunks.length ocap] 53)).drew.ownsRow W5.heap.size 53 4 (.slice av6 j cv6) j ([] ++ rowR (rs.take j))) := ownsRow_below O6.out (below_alloc _ _).drew
                        have NEWS1 : Hid (∀ i u, (cellsR ⟨e, ox, ocap⟩)[i]? = some u → (w6.alloc (.cells #[.string (str e.path), .int .i64 e.kind, .int .i64 e.size, .slice ox e.chunks.length ocap] 53)).drew.cell? ((⟨w6.heap.size, 0, none⟩ : Addr).add i) = some u) := news_four (t := 53) rfl
                        have hnl : (rowR (rs.drop j)).length = (F.length - j) * 4 := by rw [rowR_length, List.length_drop, hrsl]
                        have hm1 : j + 1 ≤ maxLen := by unfold maxLen; omega
                        have hm1' : (j + 1) * 56 ≤ 140737488355328 := by omega
                        have HK1 := hide (show j + 1 + (F.length - j) = F.length + 1 from by omega)
                        have hm2 : j + 1 + (F.length - j) ≤ maxLen := by unfold maxLen; omega
                        have hm2' : (j + 1 + (F.length - j)) * 56 ≤ 140737488355328 := by omega
                        have HLn := hide (show (F.take j ++ e :: F.drop j).length = F.length + 1 from by simp; omega)
                        have HSm := hide (show SmallE (F.take j ++ e :: F.drop j) from fun y hy => by
                          rcases List.mem_append.1 hy with hy | hy
                          · exact HSF.out y (List.mem_of_mem_take hy)
                          · rcases List.mem_cons.1 hy with rfl | hy
                            · exact HSO.out _ (List.mem_of_getElem? HX.out)
                            · exact HSF.out y (List.mem_of_mem_drop hy))
                        have hkc2 : (j : Int) ≤ (F.length : Int) := by omega
                        have hbc : (F.length : Int) ≤ (fc : Int) := by omega
                        by_cases hck : fc = j
                        · obtain rfl : j = fc := hck.symm
                          have hck3 : j = F.length := by omega
                          have hnl0 : (rowR (rs.drop j)).length = 0 * 4 := by rw [rowR_length, List.length_drop, hrsl]; omega
                          have HK0 := hide (show j + 1 + 0 = F.length + 1 from by omega)
                          have hm3 : j + 1 + 0 ≤ maxLen := by omega
                          have hm3' : (j + 1 + 0) * 56 ≤ 140737488355328 := by omega
                          have HCK := hide hck3
                          clear hck3
                          have NEWS2 : Hid (∀ w' : World, Below W5.heap.size W5 w' → ∀ i u, (rowR (rs.drop j))[i]? = some u → w'.cell? ((⟨g5, 0, none⟩ : Addr).add i) = some u) := fun w' hb' i u hi => by rw [← rowR_drop, List.drop_eq_nil_of_le (by rw [rowR_length]; have := HCK.out; omega)] at hi; simp at hi
                          go_region_held3 (fun w' => w'.cell? ⟨ob, oo + k * 4, none⟩ = some (.string (str e.path)) ∧ w'.cell? ⟨ob, oo + k * 4 + 1, none⟩ = some (.int .i64 e.kind) ∧ w'.cell? ⟨ob, oo + k * 4 + 2, none⟩ = some (.int .i64 e.size) ∧ w'.cell? ⟨ob, oo + k * 4 + 3, none⟩ = some (.slice ox e.chunks.length ocap)) (first | exact KC.out _ BB8.out | exact KC.out _ BB7.out | go_keep)
                            ((first
                              | (refine step_append_list (by rfl) (.tmp 158) (.tmp 163) 24 (by rfl) W5.heap.size 53 i1 (.agg #[.string ⟨#[]⟩, .int .i64 0, .int .i64 0, .slice none 0 0]) 4 56 Tryz.underlying24 ki kz0 kz1 kz2 rfl (by decide) (.slice av6 j cv6) j ([] ++ rowR (rs.take j)) (by rfl) OWN1.out ⟨w6.heap.size, 0, none⟩ 1 1 (cellsR ⟨e, ox, ocap⟩) (by rfl) (by rfl) NEWS1.out (rowR_one [⟨e, ox, ocap⟩]) (j + 1) rfl hm1 hm1' (by simp; omega) ?_; intro av7 cv7 w7 hown7 hk7; have O7 := hide hown7; have BB7 := hide (BW6.out.trans ((((Kept.refl (fun q => (Value.slice av6 j cv6).ownBlock = some q) w6).alloc _).drew.trans hk7).below hs6 (fun q hq hS => by have := (O6.out.lt q hS).1; omega))); clear hown7 hk7)
                              | (refine step_append_list (by rfl) (.tmp 164) (.tmp 167) 24 (by rfl) W5.heap.size 53 i1 (.agg #[.string ⟨#[]⟩, .int .i64 0, .int .i64 0, .slice none 0 0]) 4 56 Tryz.underlying24 ki kz0 kz1 kz2 rfl (by decide) (.slice av7 (j + 1) cv7) (j + 1) (([] ++ rowR (rs.take j)) ++ cellsR ⟨e, ox, ocap⟩) (by rfl) O7.out ⟨g5, 0, none⟩ 0 0 (rowR (rs.drop j)) (by rfl) hnl0 (NEWS2.out w7 BB7.out) (rowR_one _) (F.length + 1) HK0.out hm3 hm3' BB7.out.size ?_; intro av8 cv8 w8 hown8 hk8; have O8 := hide hown8; have BB8 := hide (BB7.out.trans (hk8.below BB7.out.size (fun q hq hS => by have := (O7.out.lt q hS).1; omega))); have SE8 := hide (put_rows G1.out hj rfl G3.out (HRx.out.below HWj.out) BB8.out hown8); clear hown8 hk8)))
                          go_wp2_with fail
                          go_roundw
                          case rel =>
                            refine ⟨k + 1, F.take j ++ e :: F.drop j, by omega, by go_num, by rw [HLn.out, HFL.out]; omega, HSm, hide ?_, hide ?_, hide ?_⟩
                            · exact SE.lower SE8.out (by have h1 := HW5.out.size; have h2 := HWj.out.size; omega)
                            · obtain ⟨g8, h8, _⟩ := row_addr O8.out (.inl (by omega))
                              exact ⟨g8, by rw [h8]; rfl⟩
                            · exact below_next HW5.out (below_next HWj.out BB8.out)
                          case measure => simp [intOf]; omega
                        · have hck2 : ¬ j = fc := fun e => hck e.symm
                          have NEWS2 : Hid (∀ w' : World, Below W5.heap.size W5 w' → ∀ i u, (rowR (rs.drop j))[i]? = some u → w'.cell? ((⟨g5, j * 4, none⟩ : Addr).add i) = some u) := fun w' hb' => row_news (k := j) G2.out hb' (rowR (rs.drop j)) (fun i u hi => by rw [← rowR_drop, List.getElem?_drop] at hi; exact hi)
                          go_region_held3 (fun w' => w'.cell? ⟨ob, oo + k * 4, none⟩ = some (.string (str e.path)) ∧ w'.cell? ⟨ob, oo + k * 4 + 1, none⟩ = some (.int .i64 e.kind) ∧ w'.cell? ⟨ob, oo + k * 4 + 2, none⟩ = some (.int .i64 e.size) ∧ w'.cell? ⟨ob, oo + k * 4 + 3, none⟩ = some (.slice ox e.chunks.length ocap)) (first | exact KC.out _ BB8.out | exact KC.out _ BB7.out | go_keep)
                            ((first
                              | (refine step_append_list (by rfl) (.tmp 158) (.tmp 163) 24 (by rfl) W5.heap.size 53 i1 (.agg #[.string ⟨#[]⟩, .int .i64 0, .int .i64 0, .slice none 0 0]) 4 56 Tryz.underlying24 ki kz0 kz1 kz2 rfl (by decide) (.slice av6 j cv6) j ([] ++ rowR (rs.take j)) (by rfl) OWN1.out ⟨w6.heap.size, 0, none⟩ 1 1 (cellsR ⟨e, ox, ocap⟩) (by rfl) (by rfl) NEWS1.out (rowR_one [⟨e, ox, ocap⟩]) (j + 1) rfl hm1 hm1' (by simp; omega) ?_; intro av7 cv7 w7 hown7 hk7; have O7 := hide hown7; have BB7 := hide (BW6.out.trans ((((Kept.refl (fun q => (Value.slice av6 j cv6).ownBlock = some q) w6).alloc _).drew.trans hk7).below hs6 (fun q hq hS => by have := (O6.out.lt q hS).1; omega))); clear hown7 hk7)
                              | (refine step_append_list (by rfl) (.tmp 164) (.tmp 167) 24 (by rfl) W5.heap.size 53 i1 (.agg #[.string ⟨#[]⟩, .int .i64 0, .int .i64 0, .slice none 0 0]) 4 56 Tryz.underlying24 ki kz0 kz1 kz2 rfl (by decide) (.slice av7 (j + 1) cv7) (j + 1) (([] ++ rowR (rs.take j)) ++ cellsR ⟨e, ox, ocap⟩) (by rfl) O7.out ⟨g5, j * 4, none⟩ (F.length - j) (fc - j) (rowR (rs.drop j)) (by rfl) hnl (NEWS2.out w7 BB7.out) (rowR_one _) (F.length + 1) HK1.out hm2 hm2' BB7.out.size ?_; intro av8 cv8 w8 hown8 hk8; have O8 := hide hown8; have BB8 := hide (BB7.out.trans (hk8.below BB7.out.size (fun q hq hS => by have := (O7.out.lt q hS).1; omega))); have SE8 := hide (put_rows G1.out hj rfl G3.out (HRx.out.below HWj.out) BB8.out hown8); clear hown8 hk8)))
                          go_wp2_with fail
                          go_roundw
                          case rel =>
                            refine ⟨k + 1, F.take j ++ e :: F.drop j, by omega, by go_num, by rw [HLn.out, HFL.out]; omega, HSm, hide ?_, hide ?_, hide ?_⟩
                            · exact SE.lower SE8.out (by have h1 := HW5.out.size; have h2 := HWj.out.size; omega)
                            · obtain ⟨g8, h8, _⟩ := row_addr O8.out (.inl (by omega))
                              exact ⟨g8, by rw [h8]; rfl⟩
                            · exact below_next HW5.out (below_next HWj.out BB8.out)
                          case measure => simp [intOf]; omega
                      · go_wp2_with fail
                        go_quiet (fail)
                        have HWj := hide (below_drewN HWr.out nq)
                        go_wp2_with fail
                        go_roundw
                        case rel => exact ⟨j + 1, by omega, by go_num, HWj⟩
                        case measure => simp [intOf]; omega
                    · have hjn : ¬ (j : Int) < (F.length : Int) := by omega
                      go_wp2_with fail
                      go_quiet (fail)
                      have HWj := hide (below_drewN HWr.out nq)
                      clear ce0 HWr
                      generalize wr.drewN nq = W5 at *
                      obtain ⟨rs, g1, g2, g3⟩ := HF.out
                      have G1 := hide g1
                      have G2 := hide (ownsRow_below g2 HWj.out)
                      have G3 := hide (show ∀ r ∈ rs, Reads .i64 W5 r.a r.e.chunks from fun r hr => (g3 r hr).below HWj.out)
                      have hrsl : rs.length = F.length := by rw [← g1, List.length_map]
                      clear g1 g2 g3
                      have OWN0 : Hid ((W5.alloc (.cells #[] 53)).ownsRow W5.heap.size 53 4 (.slice (some ⟨W5.heap.size, 0, none⟩) 0 0) 0 []) := World.ownsRow_made W5 #[] 0 (Nat.le_refl _) (Nat.zero_le _) rfl
                      have NEWS0 : Hid (∀ i u, (rowR (rs.take j))[i]? = some u → (W5.alloc (.cells #[] 53)).cell? ((⟨g5, 0, none⟩ : Addr).add i) = some u) := hide (by
                        have := row_news (k := 0) G2.out (below_alloc W5 (.cells #[] 53)) (rowR (rs.take j)) (fun i u hi => by
                          rw [← rowR_take] at hi
                          rw [Nat.zero_mul, Nat.zero_add]
                          rw [List.getElem?_take] at hi
                          split at hi
                          · exact hi
                          · cases hi)
                        simpa using this)
                      have hln0 : (rowR (rs.take j)).length = j * 4 := by rw [rowR_length, List.length_take]; congr 1; omega
                      have hm0 : 0 + j ≤ maxLen := by unfold maxLen; omega
                      have hm0' : (0 + j) * 56 ≤ 140737488355328 := by omega
                      have hkc : (j : Int) ≤ (fc : Int) := by omega
                      go_wp2_with (at_builtin; refine wpList_append_list rfl (.tmp 153) (.tmp 156) 24 rfl W5.heap.size 53 i1 (.agg #[.string ⟨#[]⟩, .int .i64 0, .int .i64 0, .slice none 0 0]) 4 56 Tryz.underlying24 ki kz0 kz1 kz2 rfl (by decide) (.slice (some ⟨W5.heap.size, 0, none⟩) 0 0) 0 [] rfl OWN0.out ⟨g5, 0, none⟩ j fc (rowR (rs.take j)) rfl hln0 NEWS0.out (rowR_one _) j (by simp) hm0 hm0' (by simp) ?_; intro av6 cv6 w6 hown6 hk6; have O6 := hide hown6; have K6 := hide hk6; clear hown6 hk6)
                      have BW6 := hide ((below_alloc W5 (.cells #[] 53)).trans (K6.out.below (by simp) (fun q hq hS => by simp [Value.ownBlock] at hS; omega)))
                      have hs6 := BW6.out.size
                      have KC : Hid (∀ w' : World, Below W5.heap.size W5 w' → w'.cell? ⟨ob, oo + k * 4, none⟩ = some (.string (str e.path)) ∧ w'.cell? ⟨ob, oo + k * 4 + 1, none⟩ = some (.int .i64 e.kind) ∧ w'.cell? ⟨ob, oo + k * 4 + 2, none⟩ = some (.int .i64 e.size) ∧ w'.cell? ⟨ob, oo + k * 4 + 3, none⟩ = some (.slice ox e.chunks.length ocap)) := hide (fun w' hb' => HCE.out _ (below_next HWj.out hb'))
                      obtain ⟨p0, p1, p2, p3⟩ := KC.out _ BW6.out
                      have OWN1 : Hid ((w6.alloc (.cells #[.string (str e.path), .int .i64 e.kind, .int .i64 e.size, .slice ox e.chunks.length ocap] 53)).drew.ownsRow W5.heap.size 53 4 (.slice av6 j cv6) j ([] ++ rowR (rs.take j))) := ownsRow_below O6.out (below_alloc _ _).drew
                      have NEWS1 : Hid (∀ i u, (cellsR ⟨e, ox, ocap⟩)[i]? = some u → (w6.alloc (.cells #[.string (str e.path), .int .i64 e.kind, .int .i64 e.size, .slice ox e.chunks.length ocap] 53)).drew.cell? ((⟨w6.heap.size, 0, none⟩ : Addr).add i) = some u) := news_four (t := 53) rfl
                      have hnl : (rowR (rs.drop j)).length = (F.length - j) * 4 := by rw [rowR_length, List.length_drop, hrsl]
                      have hm1 : j + 1 ≤ maxLen := by unfold maxLen; omega
                      have hm1' : (j + 1) * 56 ≤ 140737488355328 := by omega
                      have HK1 := hide (show j + 1 + (F.length - j) = F.length + 1 from by omega)
                      have hm2 : j + 1 + (F.length - j) ≤ maxLen := by unfold maxLen; omega
                      have hm2' : (j + 1 + (F.length - j)) * 56 ≤ 140737488355328 := by omega
                      have HLn := hide (show (F.take j ++ e :: F.drop j).length = F.length + 1 from by simp; omega)
                      have HSm := hide (show SmallE (F.take j ++ e :: F.drop j) from fun y hy => by
                        rcases List.mem_append.1 hy with hy | hy
                        · exact HSF.out y (List.mem_of_mem_take hy)
                        · rcases List.mem_cons.1 hy with rfl | hy
                          · exact HSO.out _ (List.mem_of_getElem? HX.out)
                          · exact HSF.out y (List.mem_of_mem_drop hy))
                      have hkc2 : (j : Int) ≤ (F.length : Int) := by omega
                      have hbc : (F.length : Int) ≤ (fc : Int) := by omega
                      by_cases hck : fc = j
                      · obtain rfl : j = fc := hck.symm
                        have hck3 : j = F.length := by omega
                        have hnl0 : (rowR (rs.drop j)).length = 0 * 4 := by rw [rowR_length, List.length_drop, hrsl]; omega
                        have HK0 := hide (show j + 1 + 0 = F.length + 1 from by omega)
                        have hm3 : j + 1 + 0 ≤ maxLen := by omega
                        have hm3' : (j + 1 + 0) * 56 ≤ 140737488355328 := by omega
                        have HCK := hide hck3
                        clear hck3
                        have NEWS2 : Hid (∀ w' : World, Below W5.heap.size W5 w' → ∀ i u, (rowR (rs.drop j))[i]? = some u → w'.cell? ((⟨g5, 0, none⟩ : Addr).add i) = some u) := fun w' hb' i u hi => by rw [← rowR_drop, List.drop_eq_nil_of_le (by rw [rowR_length]; have := HCK.out; omega)] at hi; simp at hi
                        go_region_held3 (fun w' => w'.cell? ⟨ob, oo + k * 4, none⟩ = some (.string (str e.path)) ∧ w'.cell? ⟨ob, oo + k * 4 + 1, none⟩ = some (.int .i64 e.kind) ∧ w'.cell? ⟨ob, oo + k * 4 + 2, none⟩ = some (.int .i64 e.size) ∧ w'.cell? ⟨ob, oo + k * 4 + 3, none⟩ = some (.slice ox e.chunks.length ocap)) (first | exact KC.out _ BB8.out | exact KC.out _ BB7.out | go_keep)
                          ((first
                            | (refine step_append_list (by rfl) (.tmp 158) (.tmp 163) 24 (by rfl) W5.heap.size 53 i1 (.agg #[.string ⟨#[]⟩, .int .i64 0, .int .i64 0, .slice none 0 0]) 4 56 Tryz.underlying24 ki kz0 kz1 kz2 rfl (by decide) (.slice av6 j cv6) j ([] ++ rowR (rs.take j)) (by rfl) OWN1.out ⟨w6.heap.size, 0, none⟩ 1 1 (cellsR ⟨e, ox, ocap⟩) (by rfl) (by rfl) NEWS1.out (rowR_one [⟨e, ox, ocap⟩]) (j + 1) rfl hm1 hm1' (by simp; omega) ?_; intro av7 cv7 w7 hown7 hk7; have O7 := hide hown7; have BB7 := hide (BW6.out.trans ((((Kept.refl (fun q => (Value.slice av6 j cv6).ownBlock = some q) w6).alloc _).drew.trans hk7).below hs6 (fun q hq hS => by have := (O6.out.lt q hS).1; omega))); clear hown7 hk7)
                            | (refine step_append_list (by rfl) (.tmp 164) (.tmp 167) 24 (by rfl) W5.heap.size 53 i1 (.agg #[.string ⟨#[]⟩, .int .i64 0, .int .i64 0, .slice none 0 0]) 4 56 Tryz.underlying24 ki kz0 kz1 kz2 rfl (by decide) (.slice av7 (j + 1) cv7) (j + 1) (([] ++ rowR (rs.take j)) ++ cellsR ⟨e, ox, ocap⟩) (by rfl) O7.out ⟨g5, 0, none⟩ 0 0 (rowR (rs.drop j)) (by rfl) hnl0 (NEWS2.out w7 BB7.out) (rowR_one _) (F.length + 1) HK0.out hm3 hm3' BB7.out.size ?_; intro av8 cv8 w8 hown8 hk8; have O8 := hide hown8; have BB8 := hide (BB7.out.trans (hk8.below BB7.out.size (fun q hq hS => by have := (O7.out.lt q hS).1; omega))); have SE8 := hide (put_rows G1.out hj rfl G3.out (HRx.out.below HWj.out) BB8.out hown8); clear hown8 hk8)))
                        go_wp2_with fail
                        go_roundw
                        case rel =>
                          refine ⟨k + 1, F.take j ++ e :: F.drop j, by omega, by go_num, by rw [HLn.out, HFL.out]; omega, HSm, hide ?_, hide ?_, hide ?_⟩
                          · exact SE.lower SE8.out (by have h1 := HW5.out.size; have h2 := HWj.out.size; omega)
                          · obtain ⟨g8, h8, _⟩ := row_addr O8.out (.inl (by omega))
                            exact ⟨g8, by rw [h8]; rfl⟩
                          · exact below_next HW5.out (below_next HWj.out BB8.out)
                        case measure => simp [intOf]; omega
                      · have hck2 : ¬ j = fc := fun e => hck e.symm
                        have NEWS2 : Hid (∀ w' : World, Below W5.heap.size W5 w' → ∀ i u, (rowR (rs.drop j))[i]? = some u → w'.cell? ((⟨g5, j * 4, none⟩ : Addr).add i) = some u) := fun w' hb' => row_news (k := j) G2.out hb' (rowR (rs.drop j)) (fun i u hi => by rw [← rowR_drop, List.getElem?_drop] at hi; exact hi)
                        go_region_held3 (fun w' => w'.cell? ⟨ob, oo + k * 4, none⟩ = some (.string (str e.path)) ∧ w'.cell? ⟨ob, oo + k * 4 + 1, none⟩ = some (.int .i64 e.kind) ∧ w'.cell? ⟨ob, oo + k * 4 + 2, none⟩ = some (.int .i64 e.size) ∧ w'.cell? ⟨ob, oo + k * 4 + 3, none⟩ = some (.slice ox e.chunks.length ocap)) (first | exact KC.out _ BB8.out | exact KC.out _ BB7.out | go_keep)
                          ((first
                            | (refine step_append_list (by rfl) (.tmp 158) (.tmp 163) 24 (by rfl) W5.heap.size 53 i1 (.agg #[.string ⟨#[]⟩, .int .i64 0, .int .i64 0, .slice none 0 0]) 4 56 Tryz.underlying24 ki kz0 kz1 kz2 rfl (by decide) (.slice av6 j cv6) j ([] ++ rowR (rs.take j)) (by rfl) OWN1.out ⟨w6.heap.size, 0, none⟩ 1 1 (cellsR ⟨e, ox, ocap⟩) (by rfl) (by rfl) NEWS1.out (rowR_one [⟨e, ox, ocap⟩]) (j + 1) rfl hm1 hm1' (by simp; omega) ?_; intro av7 cv7 w7 hown7 hk7; have O7 := hide hown7; have BB7 := hide (BW6.out.trans ((((Kept.refl (fun q => (Value.slice av6 j cv6).ownBlock = some q) w6).alloc _).drew.trans hk7).below hs6 (fun q hq hS => by have := (O6.out.lt q hS).1; omega))); clear hown7 hk7)
                            | (refine step_append_list (by rfl) (.tmp 164) (.tmp 167) 24 (by rfl) W5.heap.size 53 i1 (.agg #[.string ⟨#[]⟩, .int .i64 0, .int .i64 0, .slice none 0 0]) 4 56 Tryz.underlying24 ki kz0 kz1 kz2 rfl (by decide) (.slice av7 (j + 1) cv7) (j + 1) (([] ++ rowR (rs.take j)) ++ cellsR ⟨e, ox, ocap⟩) (by rfl) O7.out ⟨g5, j * 4, none⟩ (F.length - j) (fc - j) (rowR (rs.drop j)) (by rfl) hnl (NEWS2.out w7 BB7.out) (rowR_one _) (F.length + 1) HK1.out hm2 hm2' BB7.out.size ?_; intro av8 cv8 w8 hown8 hk8; have O8 := hide hown8; have BB8 := hide (BB7.out.trans (hk8.below BB7.out.size (fun q hq hS => by have := (O7.out.lt q hS).1; omega))); have SE8 := hide (put_rows G1.out hj rfl G3.out (HRx.out.below HWj.out) BB8.out hown8); clear hown8 hk8)))
                        go_wp2_with fail
                        go_roundw
                        case rel =>
                          refine ⟨k + 1, F.take j ++ e :: F.drop j, by omega, by go_num, by rw [HLn.out, HFL.out]; omega, HSm, hide ?_, hide ?_, hide ?_⟩
                          · exact SE.lower SE8.out (by have h1 := HW5.out.size; have h2 := HWj.out.size; omega)
                          · obtain ⟨g8, h8, _⟩ := row_addr O8.out (.inl (by omega))
                            exact ⟨g8, by rw [h8]; rfl⟩
                          · exact below_next HW5.out (below_next HWj.out BB8.out)
                        case measure => simp [intOf]; omega
                · have hke : k = O.length := by omega
                  have HDL := hide (show (diffE es fs).length = F.length from by rw [HLEN.out, HFL.out, hke]; omega)
                  go_wp2_with fail
                  refine (l4Copy_any (some ⟨g5, 0, none⟩) fc F.length F wr HF.out.rd rfl (by omega) HSF.out).mono ?_
                  rintro r w6 ⟨g6, cv6, rfl, hcv6, hG6, hb6⟩
                  have G6 := hide hG6
                  have B6 := hide (below_next (below_next HW.out HW5.out) hb6)
                  have hsz := (below_next HW.out HW5.out).size
                  clear hG6 hb6
                  go_wp2_with fail
                  go_ret
                  exact ⟨g6, cv6, F, by rw [HDL.out]; rfl, HDL.out.symm, G6.out.mono hsz, B6.out⟩
end Go.Proofs.YtjcjdedkedafbaaGreat
