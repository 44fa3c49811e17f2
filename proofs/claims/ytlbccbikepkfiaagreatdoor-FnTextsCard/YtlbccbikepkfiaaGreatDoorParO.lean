/-
  The model's l5Parse where the line does not tell a file in four words.
-/
import Derived.Test.YtlbccbikepkfiaaGreatDoorParN
import Derived.Test.YtlbccbikepkfiaaGreatDoorJ2
import Derived.Test.YtlbccbikepkfiaaGreatDoorTxtM
import Derived.Test.YtlbccbikepkfiaaGreatDoorJ1
import Derived.BigQuiet
namespace Go.Proofs.YtlbccbikepkfiaaGreatDoor
open Go.RowKit
set_option linter.unusedVariables false
set_option maxRecDepth 100000

/-- The model's letters. -/
def kd : Nat → Bs
  | 1 => [102]
  | 2 => [100]
  | 3 => [119]
  | 4 => [111]
  | _ => []
theorem kd_kind {k : Nat} (h1 : 1 ≤ k) (h2 : k < 5) (a : Bs) : kd k = a ↔ kindS a = k := by
  have : k = 1 ∨ k = 2 ∨ k = 3 ∨ k = 4 := by omega
  unfold kindS
  rcases this with rfl | rfl | rfl | rfl
  all_goals
    constructor
    · intro h
      subst h
      simp [kd]
    · intro h
      unfold kd
      split at h
      · first | (rename_i e; exact e.symm) | (exact absurd h (by decide))
      · split at h
        · first | (rename_i e; exact e.symm) | (exact absurd h (by decide))
        · split at h
          · first | (rename_i e; exact e.symm) | (exact absurd h (by decide))
          · split at h
            · first | (rename_i e; exact e.symm) | (exact absurd h (by decide))
            · exact absurd h (by decide)
theorem kindS_five (a : Bs) : 0 ≤ kindS a ∧ kindS a < 5 := by
  unfold kindS
  split
  · decide
  · split
    · decide
    · split
      · decide
      · split <;> decide
theorem noD {l : Bs} (h : l ≠ [45]) : ((str l).toList == [45]) = false := by
  rw [ByteArray.toList_eq, str_data, beq_eq_false_iff_ne]; exact h
theorem noDB {l : Bs} (h : l ≠ [45]) : ((str l).toList == (⟨#[45]⟩ : ByteArray).toList) = false := strNo (b := [45]) h
theorem keptDrew (S : Nat → Prop) (W : World) (n : Nat) : Kept S W (W.drewN n) := ⟨rfl, rfl, rfl, Nat.le_refl _, fun _ _ _ => rfl⟩
theorem F4.drew {w : World} {b : Nat} {u0 u1 u2 u3 : Value} (h : F4 w b u0 u1 u2 u3) (n : Nat) : F4 (w.drewN n) b u0 u1 u2 u3 := h.kept (keptDrew (fun _ => False) w n) id
theorem readS_few {l : Bs} (h : (cutC 32 l).length < 2) : readS l = none := by
  unfold readS
  match hc : cutC 32 l, h with
  | [], _ => rfl
  | [_], _ => rfl
  | _ :: _ :: _, h => simp at h; omega
theorem readS_other {l a p : Bs} {r : List Bs} (hc : cutC 32 l = a :: p :: r) (h : kindS a ≠ 1 ∨ r.length ≠ 2) : readS l = some ⟨p, kindS a, 0, []⟩ := by
  unfold readS
  rw [hc]
  match r, h with
  | [], _ => rfl
  | [_], _ => rfl
  | [n, t], h =>
    have : kindS a ≠ 1 := h.resolve_right (by simp)
    simp [this]
  | _ :: _ :: _ :: _, _ => rfl
theorem readS_file {l a p n t : Bs} (hc : cutC 32 l = [a, p, n, t]) (h : kindS a = 1) : readS l = (numS n).bind fun v => (chunkS t).map fun cs => ⟨p, 1, v, cs⟩ := by
  unfold readS
  rw [hc]
  simp [h]
/-- What l5Parse answers. -/
def ResP (o : Option En) (w : World) (r : Ending) (w' : World) : Prop :=
  (match o with
    | none => r = .returned (.tuple #[.agg #[.string ⟨#[]⟩, .int .i64 0, .int .i64 0, .slice none 0 0], .bool false])
    | some e => ∃ av cv, r = .returned (.tuple #[.agg #[.string (str e.path), .int .i64 e.kind, .int .i64 e.size, .slice av e.chunks.length cv], .bool true]) ∧ w'.ownsRow w.heap.size 2 1 (.slice av e.chunks.length cv) e.chunks.length (e.chunks.map (Value.int .i64))) ∧ Below w.heap.size w w'
theorem below_four {w W : World} (h : Below w.heap.size w W) (y0 y1 y2 y3 : Value) : Below w.heap.size w ((((W.setCell ⟨w.heap.size, 0, none⟩ y0).setCell ⟨w.heap.size, 1, none⟩ y1).setCell ⟨w.heap.size, 2, none⟩ y2).setCell ⟨w.heap.size, 3, none⟩ y3) :=
  (((h.setCell (p := ⟨w.heap.size, 0, none⟩) (Nat.le_refl _) y0).setCell (p := ⟨w.heap.size, 1, none⟩) (Nat.le_refl _) y1).setCell (p := ⟨w.heap.size, 2, none⟩) (Nat.le_refl _) y2).setCell (p := ⟨w.heap.size, 3, none⟩) (Nat.le_refl _) y3
theorem kept4 (W : World) (b : Nat) (y0 y1 y2 y3 : Value) : Kept (fun x => x = b) W ((((W.setCell ⟨b, 0, none⟩ y0).setCell ⟨b, 1, none⟩ y1).setCell ⟨b, 2, none⟩ y2).setCell ⟨b, 3, none⟩ y3) :=
  Kept.setCell (S := fun x => x = b) (p := ⟨b, 3, none⟩) (Kept.setCell (S := fun x => x = b) (p := ⟨b, 2, none⟩) (Kept.setCell (S := fun x => x = b) (p := ⟨b, 1, none⟩) (Kept.setCell (S := fun x => x = b) (p := ⟨b, 0, none⟩) (Kept.refl _ _) (fun _ => rfl) _) (fun _ => rfl) _) (fun _ => rfl) _) (fun _ => rfl) _

set_option maxHeartbeats 12800000 in
theorem l5Parse_other (l : Bs) (w : World) (hl : l.length ≤ 1048576) (ho : Hid (∀ a p n t, cutC 32 l = [a, p, n, t] → kindS a ≠ 1)) : Calls Tryz.prog 50 #[.string (str l)] w (ResP (parE l) w) := by
  have X0 := hide (F4.new w (.string ⟨#[]⟩) (.int .i64 0) (.int .i64 0) (.slice none 0 0) 39)
  have B0 := hide (below_alloc w (.cells #[.string ⟨#[]⟩, .int .i64 0, .int .i64 0, .slice none 0 0] 39))
  have HCU := hide (l3CutC_any 32 (str l) (w.alloc (.cells #[.string ⟨#[]⟩, .int .i64 0, .int .i64 0, .slice none 0 0] 39)) (by rw [str_size]; omega))
  rw [str_data] at HCU
  have hs1 : (w.alloc (.cells #[.string ⟨#[]⟩, .int .i64 0, .int .i64 0, .slice none 0 0] 39)).heap.size = w.heap.size + 1 := by simp
  have HS1 := hide hs1
  clear hs1
  go_enter Tryz.func50, Tryz.ntmps50
  go_wp2_with fail
  refine HCU.out.mono ?_
  rintro r w1 ⟨v, rfl, hO, hb1⟩
  have X1 := hide (X0.out.below hb1)
  have B1 := hide (below_next B0.out hb1)
  have O1 := hide hO
  rw [HS1.out] at O1
  have hcl := cutC_length (m := 32) l
  have HEA := hide (cutC_each (m := 32) l)
  obtain ⟨ws, hws⟩ : ∃ ws, ws = cutC 32 l := ⟨_, rfl⟩
  have HW := hide hws.symm
  rw [← hws] at O1 hcl
  clear hO hb1 hws X0 B0 HCU HS1
  obtain ⟨va, vc, rfl⟩ := O1.out.shape
  obtain ⟨⟨x0, x1, x2, x3⟩, xf⟩ := X1.out
  have g0 := xf 0
  have g1 := xf 1
  have g2 := xf 2
  have g3 := xf 3
  by_cases h2 : ws.length < 2
  · have HN := hide (parS_unread (readS_few (l := l) (by rw [HW.out]; exact h2)))
    have i2 : ((ws.length : Nat) : Int) < 2 := by omega
    go_wp2_with fail
    rw [HN.out]
    exact bodyPost_ret (v := .tuple #[.agg #[.string ⟨#[]⟩, .int .i64 0, .int .i64 0, .slice none 0 0], .bool false]) (by simp [results, Tryz.results50, go_sem, x0, x1, x2, x3]) rfl ⟨rfl, below_four B1.out _ _ _ _⟩
  · have i2 : ¬ ((ws.length : Nat) : Int) < 2 := by omega
    have i1 : (1 : Int) < ((ws.length : Nat) : Int) := by omega
    have i0 : (0 : Int) < ((ws.length : Nat) : Int) := by omega
    obtain ⟨a, p, rest, hwe⟩ : ∃ a p rest, ws = a :: p :: rest := by
      match ws, h2 with
      | a :: p :: rest, _ => exact ⟨a, p, rest, rfl⟩
      | [_], h2 => simp at h2
      | [], h2 => simp at h2
    obtain ⟨b, off, hva, hb, hcc⟩ := O1.out.reads (by rw [hwe]; simp)
    subst hva
    have ha : w1.cell? ⟨b, off, none⟩ = some (.string (str a)) := by have := hcc 0 (by omega); rw [hwe] at this; simpa using this
    have hp : w1.cell? ⟨b, off + 1, none⟩ = some (.string (str p)) := by have := hcc 1 (by omega); rw [hwe] at this; simpa using this
    have HWE := hide (HW.out.trans hwe)
    have hpl : p.length ≤ 1048576 := Nat.le_trans (HEA.out p (by rw [HWE.out]; simp)) hl
    have hB1 : w.heap.size + 1 ≤ w1.heap.size := by have h1 := X1.out.four.lt; omega
    have hbB : w.heap.size + 1 ≤ b := (O1.out.lt b rfl).1
    have A2 := hide (below_next (below_alloc w1 (.cells #[.string (str p), .int .i64 0, .int .i64 0, .slice none 0 0] 39)) (below_alloc (w1.alloc (.cells #[.string (str p), .int .i64 0, .int .i64 0, .slice none 0 0] 39)) (.cells #[.string ⟨#[]⟩, .string ⟨#[102]⟩, .string ⟨#[100]⟩, .string ⟨#[119]⟩, .string ⟨#[111]⟩] 9)))
    have M2 := hide ((F4.new w1 (.string (str p)) (.int .i64 0) (.int .i64 0) (.slice none 0 0) 39).below (below_alloc (w1.alloc (.cells #[.string (str p), .int .i64 0, .int .i64 0, .slice none 0 0] 39)) (.cells #[.string ⟨#[]⟩, .string ⟨#[102]⟩, .string ⟨#[100]⟩, .string ⟨#[119]⟩, .string ⟨#[111]⟩] 9)))
    have KC : Hid (∀ k, k < 5 → ((w1.alloc (.cells #[.string (str p), .int .i64 0, .int .i64 0, .slice none 0 0] 39)).alloc (.cells #[.string ⟨#[]⟩, .string ⟨#[102]⟩, .string ⟨#[100]⟩, .string ⟨#[119]⟩, .string ⟨#[111]⟩] 9)).cell? ⟨w1.heap.size + 1, k, none⟩ = some (.string (str (kd k)))) := hide (fun k hk => by
      have : k = 0 ∨ k = 1 ∨ k = 2 ∨ k = 3 ∨ k = 4 := by omega
      rcases this with rfl | rfl | rfl | rfl | rfl <;> simp [kd, str])
    have hbs : ((w1.alloc (.cells #[.string (str p), .int .i64 0, .int .i64 0, .slice none 0 0] 39)).alloc (.cells #[.string ⟨#[]⟩, .string ⟨#[102]⟩, .string ⟨#[100]⟩, .string ⟨#[119]⟩, .string ⟨#[111]⟩] 9)).heap.size = w1.heap.size + 2 := by simp
    have X2 := hide (X1.out.below A2.out)
    have B2 := hide (below_next B1.out A2.out)
    have HC2 : Hid (∀ j, j < ws.length → ((w1.alloc (.cells #[.string (str p), .int .i64 0, .int .i64 0, .slice none 0 0] 39)).alloc (.cells #[.string ⟨#[]⟩, .string ⟨#[102]⟩, .string ⟨#[100]⟩, .string ⟨#[119]⟩, .string ⟨#[111]⟩] 9)).cell? ⟨b, off + j, none⟩ = some (.string (str (ws.getD j [])))) := hide (fun j hj => (A2.out.cell (p := ⟨b, off + j, none⟩) hb).trans (hcc j hj))
    have hea : w1.cell? ⟨b, off, none⟩ = some (.string (str a)) := ha
    have HCL : Hid (∀ j, j < rest.length + 2 → ((w1.alloc (.cells #[.string (str p), .int .i64 0, .int .i64 0, .slice none 0 0] 39)).alloc (.cells #[.string ⟨#[]⟩, .string ⟨#[102]⟩, .string ⟨#[100]⟩, .string ⟨#[119]⟩, .string ⟨#[111]⟩] 9)).cell? ⟨b, off + j, none⟩ = some (.string (str ((a :: p :: rest).getD j [])))) := hide (fun j hj => by have := HC2.out j (by rw [hwe]; simpa using hj); rwa [hwe] at this)
    have HWL := hide (show ws.length = rest.length + 2 by rw [hwe]; simp)
    clear hcc h2 O1 hwe HC2 HW hcl
    go_wp2_with fail
    generalize (w1.alloc (.cells #[.string (str p), .int .i64 0, .int .i64 0, .slice none 0 0] 39)).alloc (.cells #[.string ⟨#[]⟩, .string ⟨#[102]⟩, .string ⟨#[100]⟩, .string ⟨#[119]⟩, .string ⟨#[111]⟩] 9) = W2 at *
    obtain ⟨bm, hbm⟩ : ∃ bm, bm = w1.heap.size := ⟨_, rfl⟩
    try simp only [heapSize] at *
    rw [← hbm] at M2 KC hbs hB1 hb ⊢
    clear hbm X1 B1 A2 x0 x1 x2 x3 xf g0 g1 g2 g3 ha hp hea
    go_loopw [7] (fun i wr => ∃ k : Nat, 1 ≤ k ∧ k ≤ 5 ∧ i = .int .i64 k ∧ Hid (F4 wr bm (.string (str p)) (.int .i64 (if kindS a < k then kindS a else 0)) (.int .i64 0) (.slice none 0 0)) ∧ Hid (Kept (fun q => q = bm) W2 wr)) (fun i _ => 5 - (intOf i).toNat)
    case atStart => exact ⟨1, Nat.le_refl _, by omega, rfl, hide (by have h := (kindS_five a).1; have e : (if kindS a < ((1 : Nat) : Int) then kindS a else 0) = 0 := by (split <;> omega)
                                                                     rw [e]; exact M2.out), hide (Kept.refl _ _)⟩
    case round =>
      obtain ⟨k, hk1, hk5, rfl, HM, HK⟩ := hrel
      obtain ⟨m0, m1, m2, m3⟩ := HM.out.four
      have mf := HM.out.free 1
      by_cases hlt : k < 5
      · have hkc := (HK.out.cell (p := ⟨bm + 1, k, none⟩) (show bm + 1 < W2.heap.size by omega) (show ¬ bm + 1 = bm by omega)).trans (KC.out k hlt)
        have hac := (HK.out.cell (p := ⟨b, off, none⟩) (show b < W2.heap.size by omega) (show ¬ b = bm by omega)).trans (HCL.out 0 (by omega))
        simp only [List.getD_cons_zero] at hac
        have e1 : (0 : Int) ≤ (k : Int) := by omega
        have e2 : (k : Int) < 5 := by omega
        by_cases hka : kd k = a
        · have HKA := hide ((kd_kind hk1 hlt a).1 hka)
          have heq : ((str (kd k)).toList == (str a).toList) = true := by rw [hka]; simp
          clear hka
          go_wp2_with fail
          go_quiet (fail)
          go_wp2_with fail
          go_roundw
          case rel =>
            have e : (if kindS a < ((k + 1 : Nat) : Int) then kindS a else 0) = (k : Int) := by have := HKA.out; rw [if_pos (by omega)]; exact this
            exact ⟨k + 1, by omega, by omega, by go_num, hide (by rw [e]; exact (HM.out.drew _).set1 _), hide (Kept.setCell (S := fun q => q = bm) (p := ⟨bm, 1, none⟩) (HK.out.trans (keptDrew _ _ _)) (fun _ => rfl) _)⟩
          case measure => simp [intOf]; omega
        · have HKA := hide (fun h => hka ((kd_kind hk1 hlt a).2 h))
          have heq : ((str (kd k)).toList == (str a).toList) = false := strNo hka
          clear hka
          go_wp2_with fail
          go_quiet (fail)
          go_wp2_with fail
          go_roundw
          case rel =>
            have e : (if kindS a < ((k + 1 : Nat) : Int) then kindS a else 0) = (if kindS a < (k : Int) then kindS a else 0) := by
              have hne : ¬ kindS a = (k : Int) := HKA.out
              by_cases hq : kindS a < (k : Int)
              · rw [if_pos hq, if_pos (by omega)]
              · rw [if_neg hq, if_neg (by omega)]
            exact ⟨k + 1, by omega, by omega, by go_num, hide (by rw [e]; exact HM.out.drew _), hide (HK.out.trans (keptDrew _ _ _))⟩
          case measure => simp [intOf]; omega
      · have hk : k = 5 := by omega
        subst hk
        have e5 : (if kindS a < ((5 : Nat) : Int) then kindS a else 0) = kindS a := if_pos (kindS_five a).2
        rw [e5] at HM m1
        clear e5 hk1 hk5 hlt
        have X3 := hide (X2.out.kept HK.out (show ¬ w.heap.size = bm by omega))
        have B3 := hide (B2.out.trans (HK.out.below (B := w.heap.size) (by omega) (fun q hq e => by omega)))
        have hs3 := HK.out.size
        have hdl : ([] : List Int).length ≤ 1048576 := by simp
        have O3 : Hid (wr.ownsRow (w.heap.size + 1) 2 1 (.slice none ([] : List Int).length 0) ([] : List Int).length (([] : List Int).map (Value.int .i64))) := hide (World.ownsRow_nil _ _ _ _)
        by_cases hk1 : kindS a = 1
        · by_cases hr2 : rest.length = 2
          · obtain ⟨n, t, rfl⟩ : ∃ n t, rest = [n, t] := by
              match rest, hr2 with
              | [n, t], _ => exact ⟨n, t, rfl⟩
            exact absurd hk1 (ho.out a p n t HWE.out)
          · have HRS := hide (readS_other HWE.out (.inr hr2))
            have hr4 : (((ws.length : Nat) : Int) == 4) = false := by have := HWL.out; simp; omega
            rw [hk1] at HRS HM m1
            have hk1 := hide hk1
            clear hr2 m0 m1 m2 m3
            obtain ⟨m0, m1, m2, m3⟩ := HM.out.four
            go_wp2_with fail
            refine (specEntryFault_any ⟨p, 1, 0, []⟩ none 0 _ wr (ownIntsR O3.out rfl) rfl hpl hdl).mono ?_
            rintro r wf ⟨rfl, bf⟩
            have XF := hide (X3.out.below bf)
            have MF := hide (HM.out.below bf)
            have OF := hide (ownsRow_below O3.out bf)
            have BF := hide (below_next B3.out bf)
            clear bf m0 m1 m2 m3
            obtain ⟨m0, m1, m2, m3⟩ := MF.out.four
            by_cases hf : entFault ⟨p, 1, 0, []⟩ = 0
            · have HFT := hide (entFault_fit.1 hf)
              have HFF := hide hf
              rw [hf]
              clear hf
              go_wp2_with fail
              refine (l5Text_any ⟨p, 1, 0, []⟩ none 0 wf (ownIntsR OF.out rfl) HFT.out).mono ?_
              rintro r wt ⟨rfl, bt⟩
              have XT := hide (XF.out.below bt)
              have MT := hide (MF.out.below bt)
              have OT := hide (ownsRow_below OF.out bt)
              have BT := hide (below_next BF.out bt)
              clear bt m0 m1 m2 m3
              obtain ⟨m0, m1, m2, m3⟩ := MT.out.four
              obtain ⟨⟨x0, x1, x2, x3⟩, xf⟩ := XT.out
              have g0 := xf 0
              have g1 := xf 1
              have g2 := xf 2
              have g3 := xf 3
              by_cases ht : textE ⟨p, 1, 0, []⟩ = l
              · have HR := hide (show parE l = some ⟨p, 1, 0, []⟩ from parS_yes HRS.out HFF.out ht)
                rw [ht]
                clear ht
                go_wp2_with fail
                rw [HR.out]
                refine bodyPost_ret (v := .tuple #[.agg #[.string (str p), .int .i64 1, .int .i64 0, .slice none ([] : List Int).length 0], .bool true]) (by simp [results, Tryz.results50, go_sem, x0, x1, x2, x3]) rfl ⟨⟨none, 0, rfl, ?_⟩, below_four BT.out _ _ _ _⟩
                exact ownsRow_mono (ownsRow_kept OT.out (kept4 wt w.heap.size _ _ _ _) (fun q hq e => by have := OT.out.lt q hq; omega)) (by omega)
              · have HR := hide (show parE l = none from parS_not HRS.out (.inr ht))
                have hs0 := strNo ht
                clear ht
                go_wp2_with fail
                rw [HR.out]
                exact bodyPost_ret (v := .tuple #[.agg #[.string ⟨#[]⟩, .int .i64 0, .int .i64 0, .slice none 0 0], .bool false]) (by simp [results, Tryz.results50, go_sem, x0, x1, x2, x3]) rfl ⟨rfl, below_four BT.out _ _ _ _⟩
            · have HR := hide (show parE l = none from parS_not HRS.out (.inl hf))
              obtain ⟨⟨x0, x1, x2, x3⟩, xf⟩ := XF.out
              have g0 := xf 0
              have g1 := xf 1
              have g2 := xf 2
              have g3 := xf 3
              generalize entFault ⟨p, 1, 0, []⟩ = FF at *
              have hfb : (FF != 0) = true := by simp; exact hf
              clear hf
              go_wp2_with fail
              rw [HR.out]
              exact bodyPost_ret (v := .tuple #[.agg #[.string ⟨#[]⟩, .int .i64 0, .int .i64 0, .slice none 0 0], .bool false]) (by simp [results, Tryz.results50, go_sem, x0, x1, x2, x3]) rfl ⟨rfl, below_four BF.out _ _ _ _⟩
        · have HRS := hide (readS_other HWE.out (.inl hk1))
          have hkb : (kindS a == 1) = false := by simp [hk1]
          clear m0 m1 m2 m3
          obtain ⟨m0, m1, m2, m3⟩ := HM.out.four
          go_wp2_with fail
          refine (specEntryFault_any ⟨p, (kindS a), 0, []⟩ none 0 _ wr (ownIntsR O3.out rfl) rfl hpl hdl).mono ?_
          rintro r wf ⟨rfl, bf⟩
          have XF := hide (X3.out.below bf)
          have MF := hide (HM.out.below bf)
          have OF := hide (ownsRow_below O3.out bf)
          have BF := hide (below_next B3.out bf)
          clear bf m0 m1 m2 m3
          obtain ⟨m0, m1, m2, m3⟩ := MF.out.four
          by_cases hf : entFault ⟨p, (kindS a), 0, []⟩ = 0
          · have HFT := hide (entFault_fit.1 hf)
            have HFF := hide hf
            rw [hf]
            clear hf
            go_wp2_with fail
            refine (l5Text_any ⟨p, (kindS a), 0, []⟩ none 0 wf (ownIntsR OF.out rfl) HFT.out).mono ?_
            rintro r wt ⟨rfl, bt⟩
            have XT := hide (XF.out.below bt)
            have MT := hide (MF.out.below bt)
            have OT := hide (ownsRow_below OF.out bt)
            have BT := hide (below_next BF.out bt)
            clear bt m0 m1 m2 m3
            obtain ⟨m0, m1, m2, m3⟩ := MT.out.four
            obtain ⟨⟨x0, x1, x2, x3⟩, xf⟩ := XT.out
            have g0 := xf 0
            have g1 := xf 1
            have g2 := xf 2
            have g3 := xf 3
            by_cases ht : textE ⟨p, (kindS a), 0, []⟩ = l
            · have HR := hide (show parE l = some ⟨p, (kindS a), 0, []⟩ from parS_yes HRS.out HFF.out ht)
              rw [ht]
              clear ht
              go_wp2_with fail
              rw [HR.out]
              refine bodyPost_ret (v := .tuple #[.agg #[.string (str p), .int .i64 (kindS a), .int .i64 0, .slice none ([] : List Int).length 0], .bool true]) (by simp [results, Tryz.results50, go_sem, x0, x1, x2, x3]) rfl ⟨⟨none, 0, rfl, ?_⟩, below_four BT.out _ _ _ _⟩
              exact ownsRow_mono (ownsRow_kept OT.out (kept4 wt w.heap.size _ _ _ _) (fun q hq e => by have := OT.out.lt q hq; omega)) (by omega)
            · have HR := hide (show parE l = none from parS_not HRS.out (.inr ht))
              have hs0 := strNo ht
              clear ht
              go_wp2_with fail
              rw [HR.out]
              exact bodyPost_ret (v := .tuple #[.agg #[.string ⟨#[]⟩, .int .i64 0, .int .i64 0, .slice none 0 0], .bool false]) (by simp [results, Tryz.results50, go_sem, x0, x1, x2, x3]) rfl ⟨rfl, below_four BT.out _ _ _ _⟩
          · have HR := hide (show parE l = none from parS_not HRS.out (.inl hf))
            obtain ⟨⟨x0, x1, x2, x3⟩, xf⟩ := XF.out
            have g0 := xf 0
            have g1 := xf 1
            have g2 := xf 2
            have g3 := xf 3
            generalize entFault ⟨p, (kindS a), 0, []⟩ = FF at *
            have hfb : (FF != 0) = true := by simp; exact hf
            clear hf
            go_wp2_with fail
            rw [HR.out]
            exact bodyPost_ret (v := .tuple #[.agg #[.string ⟨#[]⟩, .int .i64 0, .int .i64 0, .slice none 0 0], .bool false]) (by simp [results, Tryz.results50, go_sem, x0, x1, x2, x3]) rfl ⟨rfl, below_four BF.out _ _ _ _⟩
end Go.Proofs.YtlbccbikepkfiaaGreatDoor
