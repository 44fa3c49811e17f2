/-
  Texts put together: StoB IteH.
-/
import Derived.Test.YtfamojijgjmcmaaKSameSt3
import Derived.Test.YtfamojijgjmcmaaKSameSt2
import Derived.Deep.RegionHeld3
import Derived.Test.YtfamojijgjmcmaaKSameSt1
namespace Go.Proofs.Ytfamojijgjmcmaa
open Go.ChangeShapes Go.WideShapes Go.ChangeAt Go.RowKit
set_option linter.unusedVariables false
attribute [local go_sem ↓] Go.wp_at_zero Go.wp_at_succ

def szN : List Sn → Nat
  | [] => 0
  | s :: r => s.name.length + s.parent.length + s.layer.length + szE s.layer + szN r
theorem szN_append : ∀ (a b : List Sn), szN (a ++ b) = szN a + szN b
  | [], b => by simp [szN]
  | x :: a, b => by simp only [List.cons_append, szN, szN_append a b]; omega
theorem szN_take {l : List Sn} {j : Nat} {s : Sn} (h : l[j]? = some s) : szN (l.take (j + 1)) = szN (l.take j) + s.name.length + s.parent.length + s.layer.length + szE s.layer := by
  rw [List.take_add_one, h]
  show szN (l.take j ++ [s]) = _
  rw [szN_append]; simp only [szN]; omega
theorem szN_le (l : List Sn) (j : Nat) : szN (l.take j) ≤ szN l := by
  have := szN_append (l.take j) (l.drop j)
  rw [List.take_append_drop] at this
  omega
theorem szN_mem {l : List Sn} {s : Sn} (h : s ∈ l) : s.name.length + s.parent.length + s.layer.length + szE s.layer ≤ szN l := by
  induction l with
  | nil => simp at h
  | cons x l ih =>
    simp only [szN]
    rcases List.mem_cons.1 h with rfl | h
    · omega
    · have := ih h; omega
theorem szN_small {l : List Sn} (h : l.length + szN l ≤ 1048576) : SmallS l := by
  refine ⟨by omega, fun s hs => ?_⟩
  have := szN_mem hs
  exact ⟨by omega, by omega, by omega, szE_small (by omega)⟩
def MaxS (s : Sn) : Prop := (s.name.length : Int) ≤ 9223372036854775807 ∧ (s.parent.length : Int) ≤ 9223372036854775807 ∧ (s.layer.length : Int) ≤ 9223372036854775807 ∧ ∀ e ∈ s.layer, (e.path.length : Int) ≤ 9223372036854775807 ∧ (e.chunks.length : Int) ≤ 9223372036854775807
set_option maxHeartbeats 800000 in
theorem szSnap_fits (s : Sn) (x : Option Addr) (cc : Nat) (left : Int) (w : World) (h : RdE w x s.layer) (h0 : left ≤ 1048576) (hfit : (s.name.length : Int) + s.parent.length + s.layer.length + szE s.layer ≤ left) :
    Calls Try.prog 23 #[.agg #[.string (str s.name), .string (str s.parent), .int .i64 s.kind, .bool s.lease, .slice x s.layer.length cc], .int .i64 left] w fun e w' => e = .returned (.int .i64 (left - s.name.length - s.parent.length - s.layer.length - szE s.layer)) ∧ Below w.heap.size w w' := by
  have B0 := hide (below_alloc w (.cells #[.string (str s.name), .string (str s.parent), .int .i64 s.kind, .bool s.lease, .slice x s.layer.length cc] 68))
  have hs1 : ((str s.name).size : Int) = (s.name.length : Int) := by rw [str_size]
  have hs2 : ((str s.parent).size : Int) = (s.parent.length : Int) := by rw [str_size]
  have hb1 : ¬ (left - (s.name.length : Int)) < 0 := by omega
  have hb2 : ¬ (left - (s.name.length : Int) - (s.parent.length : Int)) < 0 := by omega
  have hb3 : ¬ (left - (s.name.length : Int) - (s.parent.length : Int) - (s.layer.length : Int) - (szE s.layer : Int)) < 0 := by omega
  have HC := hide (szEntryS_fits x cc s.layer.length s.layer (left - s.name.length - s.parent.length) _ (h.below B0.out) rfl (by omega) (by omega))
  clear h
  obtain ⟨f0, f1, f2, f3, f4⟩ := Five.new w (.string (str s.name)) (.string (str s.parent)) (.int .i64 s.kind) (.bool s.lease) (.slice x s.layer.length cc) 68
  go_enter Try.func23, Try.ntmps23
  go_wp2_with fail
  refine HC.out.mono ?_
  rintro e w1 ⟨rfl, b1⟩
  have B1 := hide (below_next B0.out b1)
  clear b1 f0 f1 f2 f3 f4 B0
  go_wp2_with fail
  go_ret
  exact ⟨rfl, B1.out⟩
set_option maxHeartbeats 800000 in
theorem szSnap_not (s : Sn) (x : Option Addr) (cc : Nat) (left : Int) (w : World) (h : RdE w x s.layer) (h00 : 0 ≤ left) (h0 : left ≤ 1048576) (hm : MaxS s) (hfit : left < (s.name.length : Int) + s.parent.length + s.layer.length + szE s.layer) :
    Calls Try.prog 23 #[.agg #[.string (str s.name), .string (str s.parent), .int .i64 s.kind, .bool s.lease, .slice x s.layer.length cc], .int .i64 left] w fun e w' => e = .returned (.int .i64 (-1)) ∧ Below w.heap.size w w' := by
  obtain ⟨m1, m2, m3, m4⟩ := hm
  have HM := hide m4
  clear m4
  have B0 := hide (below_alloc w (.cells #[.string (str s.name), .string (str s.parent), .int .i64 s.kind, .bool s.lease, .slice x s.layer.length cc] 68))
  have hs1 : ((str s.name).size : Int) = (s.name.length : Int) := by rw [str_size]
  have hs2 : ((str s.parent).size : Int) = (s.parent.length : Int) := by rw [str_size]
  obtain ⟨f0, f1, f2, f3, f4⟩ := Five.new w (.string (str s.name)) (.string (str s.parent)) (.int .i64 s.kind) (.bool s.lease) (.slice x s.layer.length cc) 68
  by_cases c1 : left - (s.name.length : Int) < 0
  · clear h
    go_enter Try.func23, Try.ntmps23
    go_wp2_with fail
    go_ret
    exact ⟨rfl, B0.out⟩
  · by_cases c2 : left - (s.name.length : Int) - (s.parent.length : Int) < 0
    · clear h
      go_enter Try.func23, Try.ntmps23
      go_wp2_with fail
      go_ret
      exact ⟨rfl, B0.out⟩
    · have HC := hide (szEntryS_not x cc s.layer.length s.layer (left - s.name.length - s.parent.length) _ (h.below B0.out) rfl (by omega) (by omega) m3 HM.out (by omega))
      clear h
      go_enter Try.func23, Try.ntmps23
      go_wp2_with fail
      refine HC.out.mono ?_
      rintro e w1 ⟨rfl, b1⟩
      have B1 := hide (below_next B0.out b1)
      clear b1 f0 f1 f2 f3 f4 B0
      go_wp2_with fail
      go_ret
      exact ⟨rfl, B1.out⟩
set_option maxRecDepth 100000 in
set_option maxHeartbeats 800000 in
theorem szSnapS_fits (a : Option Addr) (c n : Nat) (l : List Sn) (left : Int) (w : World) (h : RdS w a l) (hn : n = l.length) (h0 : left ≤ 1048576) (hfit : (l.length : Int) + (szN l : Int) ≤ left) :
    Calls Try.prog 9 #[.slice a n c, .int .i64 left] w fun e w' => e = .returned (.int .i64 (left - l.length - szN l)) ∧ Below w.heap.size w w' := by
  subst hn
  have hb : ¬ (left - (l.length : Int)) < 0 := by omega
  have HA := hide h
  clear h
  go_enter Try.func9, Try.ntmps9
  go_wp2_with fail
  go_loopw [1, 5] (fun q i wr => ∃ k : Nat, k ≤ l.length ∧ i = .int .i64 k ∧ q = .int .i64 (left - l.length - szN (l.take k)) ∧ Hid (Below w.heap.size w wr)) (fun _ i _ => l.length - (intOf i).toNat)
  case atStart => exact ⟨0, Nat.zero_le _, rfl, by simp [szN], hide (Below.refl _ _)⟩
  case round =>
    obtain ⟨k, hk, rfl, rfl, HW⟩ := hrel
    by_cases hlt : k < l.length
    · obtain ⟨b, off, s, x, cc, rfl, hb1, he, c0, c1, c2, c3, c4, hr⟩ := (HA.out.below HW.out).at hlt
      have hst := szN_take he
      have hle := szN_le l (k + 1)
      have HST := hide hst
      have HRD := hide hr
      have hb2 : ¬ (left - (l.length : Int) - (szN (l.take k) : Int) - (s.name.length : Int) - (s.parent.length : Int) - (s.layer.length : Int) - (szE s.layer : Int)) < 0 := by omega
      have hft : (s.name.length : Int) + s.parent.length + s.layer.length + szE s.layer ≤ left - (l.length : Int) - (szN (l.take k) : Int) := by omega
      have hlf : left - (l.length : Int) - (szN (l.take k) : Int) ≤ 1048576 := by omega
      clear hst hr he hle
      go_wp2_with fail
      refine (szSnap_fits s x cc _ _ HRD.out hlf hft).mono ?_
      rintro r w1 ⟨rfl, b1⟩
      have HB1 := hide b1
      clear b1
      go_wp2_with fail
      go_roundw
      case rel => exact ⟨k + 1, by omega, by go_num, by rw [HST.out]; go_num, hide (below_next HW.out HB1.out)⟩
      case measure => simp [intOf]; omega
    · have HE := hide (show l.take k = l from List.take_of_length_le (by omega))
      rw [HE.out]
      go_wp2_with fail
      go_ret
      exact ⟨rfl, HW.out⟩
set_option maxRecDepth 100000 in
set_option maxHeartbeats 800000 in
theorem szSnapS_not (a : Option Addr) (c n : Nat) (l : List Sn) (left : Int) (w : World) (h : RdS w a l) (hn : n = l.length) (h00 : 0 ≤ left) (h0 : left ≤ 1048576) (hm : (l.length : Int) ≤ 9223372036854775807) (hmE : ∀ s ∈ l, MaxS s) (hfit : left < (l.length : Int) + (szN l : Int)) :
    Calls Try.prog 9 #[.slice a n c, .int .i64 left] w fun e w' => e = .returned (.int .i64 (-1)) ∧ Below w.heap.size w w' := by
  subst hn
  by_cases hsm : left < (l.length : Int)
  · have hb : (left - (l.length : Int)) < 0 := by omega
    clear h
    go_enter Try.func9, Try.ntmps9
    go_wp2_with fail
    go_ret
    exact ⟨rfl, Below.refl _ _⟩
  · have hb : ¬ (left - (l.length : Int)) < 0 := by omega
    have HA := hide h
    have HM := hide hmE
    clear h hmE
    go_enter Try.func9, Try.ntmps9
    go_wp2_with fail
    go_loopw [1, 5] (fun q i wr => ∃ k : Nat, k ≤ l.length ∧ i = .int .i64 k ∧ q = .int .i64 (left - l.length - szN (l.take k)) ∧ (l.length : Int) + (szN (l.take k) : Int) ≤ left ∧ Hid (Below w.heap.size w wr)) (fun _ i _ => l.length - (intOf i).toNat)
    case atStart => exact ⟨0, Nat.zero_le _, rfl, by simp [szN], by simp [szN]; omega, hide (Below.refl _ _)⟩
    case round =>
      obtain ⟨k, hk, rfl, rfl, hft, HW⟩ := hrel
      have hlt : k < l.length := by
        rcases Nat.lt_or_ge k l.length with h1 | h1
        · exact h1
        · rw [List.take_of_length_le h1] at hft
          omega
      obtain ⟨b, off, s, x, cc, rfl, hb1, he, c0, c1, c2, c3, c4, hr⟩ := (HA.out.below HW.out).at hlt
      have hst := szN_take he
      have hms := HM.out s (List.mem_of_getElem? he)
      have HST := hide hst
      have HRD := hide hr
      have HMS := hide hms
      have hlf : left - (l.length : Int) - (szN (l.take k) : Int) ≤ 1048576 := by omega
      have hlg : 0 ≤ left - (l.length : Int) - (szN (l.take k) : Int) := by omega
      clear hst hr he hms
      by_cases hf : (s.name.length : Int) + s.parent.length + s.layer.length + szE s.layer ≤ left - (l.length : Int) - (szN (l.take k) : Int)
      · have hb2 : ¬ (left - (l.length : Int) - (szN (l.take k) : Int) - (s.name.length : Int) - (s.parent.length : Int) - (s.layer.length : Int) - (szE s.layer : Int)) < 0 := by omega
        go_wp2_with fail
        refine (szSnap_fits s x cc _ _ HRD.out hlf hf).mono ?_
        rintro r w1 ⟨rfl, b1⟩
        have HB1 := hide b1
        clear b1
        go_wp2_with fail
        go_roundw
        case rel => exact ⟨k + 1, by omega, by go_num, by rw [HST.out]; go_num, by rw [HST.out]; omega, hide (below_next HW.out HB1.out)⟩
        case measure => simp [intOf]; omega
      · go_wp2_with fail
        refine (szSnap_not s x cc _ _ HRD.out hlg hlf HMS.out (by omega)).mono ?_
        rintro r w1 ⟨rfl, b1⟩
        have HB1 := hide b1
        clear b1
        go_wp2_with fail
        go_ret
        exact ⟨rfl, below_next HW.out HB1.out⟩
set_option maxRecDepth 100000 in
set_option maxHeartbeats 1600000 in
theorem toSnap_any (s : Sn) (x : Option Addr) (cc : Nat) (w : World) (h : RdE w x s.layer) (hl : s.layer.length ≤ 1048576) (hs : SmallE s.layer) :
    Calls Try.prog 29 #[.agg #[.string (str s.name), .string (str s.parent), .int .i64 s.kind, .bool s.lease, .slice x s.layer.length cc]] w fun e w' => ∃ g B T, e = .returned (.agg #[.string (str s.name), .string (str s.parent), .int .i64 s.kind, .bool s.lease, .slice (some ⟨g, 0, none⟩) s.layer.length s.layer.length]) ∧ w.heap.size ≤ B ∧ GE B T w' (.slice (some ⟨g, 0, none⟩) s.layer.length s.layer.length) s.layer ∧ Below w.heap.size w w' := by
  have HR := hide h
  have HS := hide hs
  clear h hs
  obtain ⟨f0, f1, f2, f3, f4⟩ := Five.new w (.string (str s.name)) (.string (str s.parent)) (.int .i64 s.kind) (.bool s.lease) (.slice x s.layer.length cc) 68
  go_enter Try.func29, Try.ntmps29
  go_wp2_with fail
  have X1 := hide ((Box5.new (w.alloc (.cells #[.string (str s.name), .string (str s.parent), .int .i64 s.kind, .bool s.lease, .slice x s.layer.length cc] 68)) (.string ⟨#[]⟩) (.string ⟨#[]⟩) (.int .i64 0) (.bool false) (.slice none 0 0) 61).below (below_alloc _ (.cells #[.string (str s.name), .string (str s.parent), .int .i64 s.kind, .bool s.lease, .slice none 0 0] 61)))
  have X2 := hide (Box5.new ((w.alloc (.cells #[.string (str s.name), .string (str s.parent), .int .i64 s.kind, .bool s.lease, .slice x s.layer.length cc] 68)).alloc (.cells #[.string ⟨#[]⟩, .string ⟨#[]⟩, .int .i64 0, .bool false, .slice none 0 0] 61)) (.string (str s.name)) (.string (str s.parent)) (.int .i64 s.kind) (.bool s.lease) (.slice none 0 0) 61)
  have B0 := hide (below_next (below_next (below_alloc w (.cells #[.string (str s.name), .string (str s.parent), .int .i64 s.kind, .bool s.lease, .slice x s.layer.length cc] 68)) (below_alloc _ (.cells #[.string ⟨#[]⟩, .string ⟨#[]⟩, .int .i64 0, .bool false, .slice none 0 0] 61))) (below_alloc _ (.cells #[.string (str s.name), .string (str s.parent), .int .i64 s.kind, .bool s.lease, .slice none 0 0] 61)))
  have hsz : (((w.alloc (.cells #[.string (str s.name), .string (str s.parent), .int .i64 s.kind, .bool s.lease, .slice x s.layer.length cc] 68)).alloc (.cells #[.string ⟨#[]⟩, .string ⟨#[]⟩, .int .i64 0, .bool false, .slice none 0 0] 61)).alloc (.cells #[.string (str s.name), .string (str s.parent), .int .i64 s.kind, .bool s.lease, .slice none 0 0] 61)).heap.size = w.heap.size + 3 := by simp
  have h1 : (w.alloc (.cells #[.string (str s.name), .string (str s.parent), .int .i64 s.kind, .bool s.lease, .slice x s.layer.length cc] 68)).heap.size = w.heap.size + 1 := by simp
  have h2 : ((w.alloc (.cells #[.string (str s.name), .string (str s.parent), .int .i64 s.kind, .bool s.lease, .slice x s.layer.length cc] 68)).alloc (.cells #[.string ⟨#[]⟩, .string ⟨#[]⟩, .int .i64 0, .bool false, .slice none 0 0] 61)).heap.size = w.heap.size + 1 + 1 := by simp
  rw [h1] at X1
  rw [h2] at X2
  clear h1 h2 f0 f1 f2 f3 f4
  generalize ((w.alloc (.cells #[.string (str s.name), .string (str s.parent), .int .i64 s.kind, .bool s.lease, .slice x s.layer.length cc] 68)).alloc (.cells #[.string ⟨#[]⟩, .string ⟨#[]⟩, .int .i64 0, .bool false, .slice none 0 0] 61)).alloc (.cells #[.string (str s.name), .string (str s.parent), .int .i64 s.kind, .bool s.lease, .slice none 0 0] 61) = W at *
  have HZ := hide hsz
  clear hsz
  refine (toEntryS_any x cc s.layer.length s.layer _ (HR.out.below B0.out) rfl hl HS.out).mono ?_
  rintro e w1 ⟨g, rfl, hg, hG, b1⟩
  obtain ⟨⟨q0, q1, q2, q3, q4⟩, qf⟩ := X1.out.below b1
  obtain ⟨⟨r0, r1, r2, r3, r4⟩, rf⟩ := X2.out.below b1
  have qf0 := qf 0
  have qf1 := qf 1
  have qf2 := qf 2
  have qf3 := qf 3
  have qf4 := qf 4
  have rf4 := rf 4
  have HG := hide hG
  have HB := hide (below_next B0.out b1)
  clear hG b1 X1 X2 B0 hg qf rf
  go_wp2_with fail
  have hk : Kept (fun b => b = w.heap.size + 1 ∨ b = w.heap.size + 1 + 1) w1 ((((((w1.setCell ⟨w.heap.size + 1 + 1, 4, none⟩ (.slice (some ⟨g, 0, none⟩) s.layer.length s.layer.length)).setCell ⟨w.heap.size + 1, 0, none⟩ (.string (str s.name))).setCell ⟨w.heap.size + 1, 1, none⟩ (.string (str s.parent))).setCell ⟨w.heap.size + 1, 2, none⟩ (.int .i64 s.kind)).setCell ⟨w.heap.size + 1, 3, none⟩ (.bool s.lease)).setCell ⟨w.heap.size + 1, 4, none⟩ (.slice (some ⟨g, 0, none⟩) s.layer.length s.layer.length)) :=
    Kept.setCell (p := ⟨w.heap.size + 1, 4, none⟩) (Kept.setCell (p := ⟨w.heap.size + 1, 3, none⟩) (Kept.setCell (p := ⟨w.heap.size + 1, 2, none⟩) (Kept.setCell (p := ⟨w.heap.size + 1, 1, none⟩) (Kept.setCell (p := ⟨w.heap.size + 1, 0, none⟩) (Kept.setCell (p := ⟨w.heap.size + 1 + 1, 4, none⟩) (Kept.refl _ _) (fun _ => .inr rfl) _) (fun _ => .inl rfl) _) (fun _ => .inl rfl) _) (fun _ => .inl rfl) _) (fun _ => .inl rfl) _) (fun _ => .inl rfl) _
  refine bodyPost_ret (v := .agg #[.string (str s.name), .string (str s.parent), .int .i64 s.kind, .bool s.lease, .slice (some ⟨g, 0, none⟩) s.layer.length s.layer.length]) (by simp [results, Try.results29, go_sem, q0, q1, q2, q3, q4]) rfl ⟨g, _, _, rfl, ?_, HG.out.kept hk (fun b hb _ hS => by have := HZ.out; omega), HB.out.trans (hk.below HB.out.size (fun k hk hS => by omega))⟩
  have := HZ.out
  omega
theorem rowN_setq' : ∀ (rs : List Rs) (k q : Nat) (r r' : Rs) (u : Value), rs[k]? = some r → q < 5 → (cellsN r).set q u = cellsN r' → (rowN rs).set (k * 5 + q) u = rowN (rs.set k r')
  | [], k, q, r, r', u, h, _, _ => by simp at h
  | y :: rs, 0, q, r, r', u, h, hq, he => by
    simp only [List.getElem?_cons_zero, Option.some.injEq] at h
    subst h
    simp only [rowN, List.flatMap_cons, Nat.zero_mul, Nat.zero_add, List.set_cons_zero]
    rw [List.set_append_left _ _ (by simp [cellsN]; omega), he]
  | y :: rs, k + 1, q, r, r', u, h, hq, he => by
    have := rowN_setq' rs k q r r' u (by simpa using h) hq he
    have e : (k + 1) * 5 + q = (cellsN y).length + (k * 5 + q) := by simp [cellsN]; omega
    simp only [rowN, List.flatMap_cons, List.set_cons_succ] at this ⊢
    rw [e, List.set_append_right _ _ (by omega), Nat.add_sub_cancel_left, this]
theorem rowN_set5 (rs : List Rs) (k : Nat) (r : Rs) (s : Sn) (a : Option Addr) (c : Nat) (h : rs[k]? = some r) :
    ((((((rowN rs).set (k * 5) (.string (str s.name))).set (k * 5 + 1) (.string (str s.parent))).set (k * 5 + 2) (.int .i64 s.kind)).set (k * 5 + 3) (.bool s.lease)).set (k * 5 + 4) (.slice a s.layer.length c)) = rowN (rs.set k ⟨s, a, c⟩) := by
  have hk := (List.getElem?_eq_some_iff.1 h).1
  have at_ : ∀ y : Rs, (rs.set k y)[k]? = some y := fun y => by rw [List.getElem?_set, if_pos rfl, if_pos hk]
  have s0 := rowN_setq' rs k 0 r ⟨⟨s.name, r.s.parent, r.s.kind, r.s.lease, r.s.layer⟩, r.a, r.c⟩ (.string (str s.name)) h (by decide) rfl
  rw [Nat.add_zero] at s0
  have s1 := rowN_setq' (rs.set k ⟨⟨s.name, r.s.parent, r.s.kind, r.s.lease, r.s.layer⟩, r.a, r.c⟩) k 1 ⟨⟨s.name, r.s.parent, r.s.kind, r.s.lease, r.s.layer⟩, r.a, r.c⟩ ⟨⟨s.name, s.parent, r.s.kind, r.s.lease, r.s.layer⟩, r.a, r.c⟩ (.string (str s.parent)) (at_ _) (by decide) rfl
  rw [List.set_set] at s1
  have s2 := rowN_setq' (rs.set k ⟨⟨s.name, s.parent, r.s.kind, r.s.lease, r.s.layer⟩, r.a, r.c⟩) k 2 ⟨⟨s.name, s.parent, r.s.kind, r.s.lease, r.s.layer⟩, r.a, r.c⟩ ⟨⟨s.name, s.parent, s.kind, r.s.lease, r.s.layer⟩, r.a, r.c⟩ (.int .i64 s.kind) (at_ _) (by decide) rfl
  rw [List.set_set] at s2
  have s3 := rowN_setq' (rs.set k ⟨⟨s.name, s.parent, s.kind, r.s.lease, r.s.layer⟩, r.a, r.c⟩) k 3 ⟨⟨s.name, s.parent, s.kind, r.s.lease, r.s.layer⟩, r.a, r.c⟩ ⟨⟨s.name, s.parent, s.kind, s.lease, r.s.layer⟩, r.a, r.c⟩ (.bool s.lease) (at_ _) (by decide) rfl
  rw [List.set_set] at s3
  have s4 := rowN_setq' (rs.set k ⟨⟨s.name, s.parent, s.kind, s.lease, r.s.layer⟩, r.a, r.c⟩) k 4 ⟨⟨s.name, s.parent, s.kind, s.lease, r.s.layer⟩, r.a, r.c⟩ ⟨s, a, c⟩ (.slice a s.layer.length c) (at_ _) (by decide) rfl
  rw [List.set_set] at s4
  rw [s0, s1, s2, s3, s4]
def zSn : Sn := ⟨[], [], 0, false, []⟩
theorem zeros_rowN (n : Nat) : (madeCells (Value.agg #[.string ⟨#[]⟩, .string ⟨#[]⟩, .int .i64 0, .bool false, .slice none 0 0]).cells (n * 5)).toList = rowN (List.replicate n ⟨zSn, none, 0⟩) := by
  have hl := rowN_length (List.replicate n ⟨zSn, none, 0⟩)
  rw [List.length_replicate] at hl
  apply List.ext_getElem?
  intro p
  by_cases hp : p < n * 5
  · have e : p = p / 5 * 5 + p % 5 := by omega
    have h1 : p / 5 < n := by omega
    have h2 : p % 5 < 5 := by omega
    rw [e, rowN_get _ (p / 5) (p % 5) ⟨zSn, none, 0⟩ (by simp [h1]) h2, ← e]
    have hm : p % 5 = 0 ∨ p % 5 = 1 ∨ p % 5 = 2 ∨ p % 5 = 3 ∨ p % 5 = 4 := by omega
    rcases hm with hm | hm | hm | hm | hm <;> simp [madeCells, hp, hm, cellsN, zSn, Value.cells, str]
  · rw [List.getElem?_eq_none (by simp [madeCells]; omega), List.getElem?_eq_none (by omega)]
def LayS (B : Nat) (w : World) (n : Nat) (l : List Sn) : Prop :=
  ∃ rs : List Rs, rs.map Rs.s = l ∧ w.ownsRow B 61 5 (.slice (some ⟨B, 0, none⟩) n n) l.length (rowN rs) ∧ ∀ r ∈ rs, r.s.layer = [] ∨ ∃ B1 T, B < B1 ∧ GE B1 T w (.slice r.a r.s.layer.length r.c) r.s.layer
theorem LayS.below {B n : Nat} {w w' : World} {l : List Sn} (h : LayS B w n l) (hk : Below w.heap.size w w') : LayS B w' n l := by
  obtain ⟨rs, h1, h2, h3⟩ := h
  refine ⟨rs, h1, ownsRow_below h2 hk, fun r hr => ?_⟩
  rcases h3 r hr with h | ⟨B1, T, g1, g2⟩
  · exact .inl h
  · exact .inr ⟨B1, T, g1, g2.below hk⟩
theorem LayS.kept {S : Nat → Prop} {B n : Nat} {w w' : World} {l : List Sn} (h : LayS B w n l) (hk : Kept S w w') (hS : ∀ b, B ≤ b → ¬ S b) : LayS B w' n l := by
  obtain ⟨rs, h1, h2, h3⟩ := h
  refine ⟨rs, h1, ownsRow_kept h2 hk (fun b hb => hS b (h2.lt b hb).1), fun r hr => ?_⟩
  rcases h3 r hr with h | ⟨B1, T, g1, g2⟩
  · exact .inl h
  · exact .inr ⟨B1, T, g1, g2.kept hk (fun b hb _ => hS b (by omega))⟩
theorem LayS.rd {B n : Nat} {w : World} {l : List Sn} (h : LayS B w n l) : RdS w (some ⟨B, 0, none⟩) l := by
  obtain ⟨rs, h1, h2, h3⟩ := h
  obtain ⟨m0, c0', e0⟩ := ownsRow_shape h2
  simp only [Value.slice.injEq] at e0
  obtain ⟨-, rfl, -⟩ := e0
  have hl : rs.length = l.length := by rw [← h1, List.length_map]
  intro hz
  refine ⟨B, 0, fun i => ((rs[i]?).map Rs.a).getD none, fun i => ((rs[i]?).map Rs.c).getD 0, rfl, (h2.lt B rfl).2, fun i s hs => ?_⟩
  have hi := (List.getElem?_eq_some_iff.1 hs).1
  obtain ⟨r, hr⟩ : ∃ r, rs[i]? = some r := ⟨_, List.getElem?_eq_getElem (by omega)⟩
  have hrs : r.s = s := by
    have : (rs.map Rs.s)[i]? = some r.s := by rw [List.getElem?_map, hr]; rfl
    rw [h1, hs] at this
    exact (Option.some.inj this).symm
  subst hrs
  have cel : ∀ q, q < 5 → w.cell? ⟨B, i * 5 + q, none⟩ = (cellsN r)[q]? := fun q hq => by
    rw [h2.cellAt (i * 5 + q) (by omega), rowN_get _ i q r hr hq]
  simp only [hr, Option.map_some, Option.getD_some, Nat.zero_add]
  refine ⟨cel 0 (by decide), cel 1 (by decide), cel 2 (by decide), cel 3 (by decide), cel 4 (by decide), ?_⟩
  rcases h3 r (List.mem_of_getElem? hr) with h | ⟨B1, T, g1, g2⟩
  · rw [h]
    intro h9
    exact absurd rfl h9
  · exact g2.rd
theorem LayS.at {B n k : Nat} {w : World} {l : List Sn} (h : LayS B w n l) (hk : k < l.length) : B < w.heap.size ∧ (∀ q, q < 5 → ∃ u, w.cell? ⟨B, k * 5 + q, none⟩ = some u) ∧ ∀ j, w.frozen? ⟨B, j, none⟩ = false := by
  obtain ⟨rs, h1, h2, h3⟩ := h
  obtain ⟨m0, c0', e0⟩ := ownsRow_shape h2
  simp only [Value.slice.injEq] at e0
  obtain ⟨-, rfl, -⟩ := e0
  have hl : rs.length = l.length := by rw [← h1, List.length_map]
  obtain ⟨r, hr⟩ : ∃ r, rs[k]? = some r := ⟨_, List.getElem?_eq_getElem (by omega)⟩
  refine ⟨(h2.lt B rfl).2, fun q hq => ?_, fun j => h2.frozenAt j⟩
  have := h2.cellAt (k * 5 + q) (by omega)
  rw [rowN_get _ k q r hr hq] at this
  exact ⟨(cellsN r)[q]'(by simp [cellsN]; exact hq), by rw [this]; exact List.getElem?_eq_getElem _⟩
theorem LayS.store {n k : Nat} {w w1 : World} {l : List Sn} {s : Sn} {a : Option Addr} {c B T : Nat} (h : LayS w.heap.size w1 n l) (hk : k < l.length) (hG : GE B T w1 (.slice a s.layer.length c) s.layer) (hB : w.heap.size < B) :
    LayS w.heap.size (((((w1.setCell ⟨w.heap.size, k * 5, none⟩ (.string (str s.name))).setCell ⟨w.heap.size, k * 5 + 1, none⟩ (.string (str s.parent))).setCell ⟨w.heap.size, k * 5 + 2, none⟩ (.int .i64 s.kind)).setCell ⟨w.heap.size, k * 5 + 3, none⟩ (.bool s.lease)).setCell ⟨w.heap.size, k * 5 + 4, none⟩ (.slice a s.layer.length c)) n (l.set k s) := by
  obtain ⟨rs, h1, h2, h3⟩ := h
  have hl : rs.length = l.length := by rw [← h1, List.length_map]
  obtain ⟨r, hr⟩ : ∃ r, rs[k]? = some r := ⟨_, List.getElem?_eq_getElem (by omega)⟩
  obtain ⟨m, c', e⟩ := ownsRow_shape h2
  simp only [Value.slice.injEq] at e
  obtain ⟨-, rfl, -⟩ := e
  have s1 := (((((h2.stored (k * 5) (.string (str s.name))).1.stored (k * 5 + 1) (.string (str s.parent))).1.stored (k * 5 + 2) (.int .i64 s.kind)).1.stored (k * 5 + 3) (.bool s.lease)).1.stored (k * 5 + 4) (.slice a s.layer.length c)).1
  rw [rowN_set5 rs k r s a c hr] at s1
  have hkp : Kept (fun b => b = w.heap.size) w1 (((((w1.setCell ⟨w.heap.size, k * 5, none⟩ (.string (str s.name))).setCell ⟨w.heap.size, k * 5 + 1, none⟩ (.string (str s.parent))).setCell ⟨w.heap.size, k * 5 + 2, none⟩ (.int .i64 s.kind)).setCell ⟨w.heap.size, k * 5 + 3, none⟩ (.bool s.lease)).setCell ⟨w.heap.size, k * 5 + 4, none⟩ (.slice a s.layer.length c)) :=
    Kept.setCell (S := fun b => b = w.heap.size) (p := ⟨w.heap.size, k * 5 + 4, none⟩) (Kept.setCell (S := fun b => b = w.heap.size) (p := ⟨w.heap.size, k * 5 + 3, none⟩) (Kept.setCell (S := fun b => b = w.heap.size) (p := ⟨w.heap.size, k * 5 + 2, none⟩) (Kept.two _ _ _ _ _ _) (fun _ => rfl) _) (fun _ => rfl) _) (fun _ => rfl) _
  refine ⟨rs.set k ⟨s, a, c⟩, by rw [List.map_set, h1], by rw [List.length_set]; exact s1, fun r0 hr0 => ?_⟩
  rcases List.mem_or_eq_of_mem_set hr0 with hr1 | rfl
  · rcases h3 r0 hr1 with h | ⟨B1, T1, g1, g2⟩
    · exact .inl h
    · exact .inr ⟨B1, T1, g1, g2.kept hkp (fun b hb _ e => by omega)⟩
  · exact .inr ⟨B, T, hB, hG.kept hkp (fun b hb _ e => by omega)⟩
theorem Try.infoSn : (Try.prog.info? 61).map (fun i => (i.zero, i.size, i.bytes)) = some (some (.agg #[.string ⟨#[]⟩, .string ⟨#[]⟩, .int .i64 0, .bool false, .slice none 0 0]), 5, 72) := by kernel_rfl
set_option maxRecDepth 100000 in
set_option maxHeartbeats 3200000 in
theorem toSnapS_any (a : Option Addr) (c n : Nat) (l : List Sn) (w : World) (h : RdS w a l) (hn : n = l.length) (hs : SmallS l) :
    Calls Try.prog 14 #[.slice a n c] w fun e w' => ∃ G, e = .returned (.slice (some ⟨G, 0, none⟩) n n) ∧ (∀ u, Kept (fun b => b < w.heap.size) w' u → RdS u (some ⟨G, 0, none⟩) l) ∧ Below w.heap.size w w' := by
  subst hn
  obtain ⟨i1, ki, kz0, kz1, kz2⟩ := info_parts Try.infoSn
  have HA := hide h
  have HS := hide hs
  have hl := hs.1
  clear h hs
  have hby : i1.bytes * l.length ≤ 281474976710656 := by rw [kz2]; omega
  have hml : l.length ≤ maxLen := by unfold maxLen; omega
  go_enter Try.func14, Try.ntmps14
  go_wp2_with (at_make; refine wpList_make_full _ rfl (.tmp 6) (.tmp 6) 35 rfl w.heap.size 61 i1 (.agg #[.string ⟨#[]⟩, .string ⟨#[]⟩, .int .i64 0, .bool false, .slice none 0 0]) 5 Try.underlying35 ki kz0 kz1 .i64 .i64 _ _ l.length rfl rfl rfl rfl hby hml (Nat.le_refl _) ?_; intro w1 ho1 hg1; have HO1 := hide ho1; have HG1 := hide hg1; clear ho1 hg1)
  have B1 : Hid (Below w.heap.size w w1) := (Below.refl _ _).grown HG1.out (Nat.le_refl _) (fun k hk => by simp at hk)
  have G1 : Hid (LayS w.heap.size w1 l.length (List.replicate l.length zSn)) := hide ⟨List.replicate l.length ⟨zSn, none, 0⟩, by simp, by rw [List.length_replicate, ← zeros_rowN]; exact HO1.out, fun r hr => by rw [(List.mem_replicate.1 hr).2]; exact .inl rfl⟩
  clear HO1 HG1
  go_loopw [4] (fun i wr => ∃ k : Nat, k ≤ l.length ∧ i = .int .i64 k ∧ Hid (LayS w.heap.size wr l.length (l.take k ++ List.replicate (l.length - k) zSn)) ∧ Hid (Below w.heap.size w wr)) (fun i _ => l.length - (intOf i).toNat)
  case atStart => exact ⟨0, Nat.zero_le _, rfl, hide (by simpa using G1.out), B1⟩
  case round =>
    obtain ⟨k, hk, rfl, HG, HW⟩ := hrel
    clear G1 B1
    have hsz := HW.out.size
    by_cases hlt : k < l.length
    · obtain ⟨b, off, s, x, cc, rfl, hb1, he, c0, c1, c2, c3, c4, hr⟩ := (HA.out.below HW.out).at hlt
      have hsm := HS.out.2 s (List.mem_of_getElem? he)
      have HX := hide he
      have HRc := hide hr
      have HSm := hide hsm.2.2.2
      have hsl := hsm.2.2.1
      clear he hr hsm
      have hlen : (l.take k ++ List.replicate (l.length - k) zSn).length = l.length := by simp; omega
      have HSTEP := hide (show (l.take k ++ List.replicate (l.length - k) zSn).set k s = l.take (k + 1) ++ List.replicate (l.length - (k + 1)) zSn from by
        rw [List.set_append_right _ _ (by rw [List.length_take]; omega), List.length_take, show k - min k l.length = 0 by omega, take_snoc_at HX.out, show l.length - k = (l.length - (k + 1)) + 1 by omega, List.replicate_succ]
        simp)
      have HLE := hide hlen
      clear hlen
      generalize l.take k ++ List.replicate (l.length - k) zSn = L at HG HSTEP HLE
      have hkL : k < L.length := by rw [HLE.out]; exact hlt
      obtain ⟨hwl, -, -⟩ := HG.out.at hkL
      go_wp2_with fail
      refine (toSnap_any s x cc _ HRc.out hsl HSm.out).mono ?_
      rintro r w2 ⟨g, B, T, rfl, hgB, hG, hb⟩
      obtain ⟨-, hcl, mf⟩ := (HG.out.below hb).at hkL
      obtain ⟨u0, m0⟩ := hcl 0 (by decide)
      obtain ⟨u1, m1⟩ := hcl 1 (by decide)
      obtain ⟨u2, m2⟩ := hcl 2 (by decide)
      obtain ⟨u3, m3⟩ := hcl 3 (by decide)
      obtain ⟨u4, m4⟩ := hcl 4 (by decide)
      rw [Nat.add_zero] at m0
      have mf0 := mf (k * 5)
      have mf1 := mf (k * 5 + 1)
      have mf2 := mf (k * 5 + 2)
      have mf3 := mf (k * 5 + 3)
      have mf4 := mf (k * 5 + 4)
      have ST := hide (LayS.store (HG.out.below hb) hkL hG (by omega))
      rw [HSTEP.out] at ST
      have HB2 := hide hb
      have hsz2 := hb.size
      clear hb mf hcl hG
      go_wp2_with fail
      go_roundw
      case rel =>
        refine ⟨k + 1, by omega, by go_num, hide (by simpa [World.setCell] using ST.out), hide ?_⟩
        exact (((((HW.out.trans (HB2.out.mono hsz)).setCell (p := ⟨w.heap.size, k * 5, none⟩) (Nat.le_refl _) _).setCell (p := ⟨w.heap.size, k * 5 + 1, none⟩) (Nat.le_refl _) _).setCell (p := ⟨w.heap.size, k * 5 + 2, none⟩) (Nat.le_refl _) _).setCell (p := ⟨w.heap.size, k * 5 + 3, none⟩) (Nat.le_refl _) _).setCell (p := ⟨w.heap.size, k * 5 + 4, none⟩) (Nat.le_refl _) _
      case measure => simp [intOf]; omega
    · have hke : k = l.length := by omega
      have HE := hide (show l.take k ++ List.replicate (l.length - k) zSn = l from by rw [List.take_of_length_le (by omega), show l.length - k = 0 by omega]; simp)
      clear hke
      rw [HE.out] at HG
      go_wp2_with fail
      go_ret
      exact ⟨_, rfl, fun u hu => (HG.out.kept hu (fun b hb e => by omega)).rd, HW.out⟩
set_option maxRecDepth 100000 in
set_option maxHeartbeats 800000 in
theorem eqSnap_same (s : Sn) (x y : Option Addr) (cc dd : Nat) (w : World) (h : RdE w x s.layer) (h2 : RdE w y s.layer) (hl : s.layer.length ≤ 1048576) (hs : SmallE s.layer) :
    Calls Try.prog 40 #[.agg #[.string (str s.name), .string (str s.parent), .int .i64 s.kind, .bool s.lease, .slice x s.layer.length cc], .agg #[.string (str s.name), .string (str s.parent), .int .i64 s.kind, .bool s.lease, .slice y s.layer.length dd]] w fun e w' => e = .returned (.bool true) ∧ Below w.heap.size w w' := by
  have B0 := hide (below_next (below_alloc w (.cells #[.string (str s.name), .string (str s.parent), .int .i64 s.kind, .bool s.lease, .slice x s.layer.length cc] 61)) (below_alloc _ (.cells #[.string (str s.name), .string (str s.parent), .int .i64 s.kind, .bool s.lease, .slice y s.layer.length dd] 61)))
  have HC := hide (eqEntryS_same x y cc dd s.layer.length s.layer _ (h.below B0.out) (h2.below B0.out) rfl hl (fun e he => (hs e he).2))
  clear h h2 hs
  go_enter Try.func40, Try.ntmps40
  go_wp2_with fail
  refine HC.out.mono ?_
  rintro e w1 ⟨rfl, b1⟩
  have B1 := hide (below_next B0.out b1)
  clear b1 B0
  go_wp2_with fail
  go_ret
  exact ⟨rfl, B1.out⟩
set_option maxRecDepth 100000 in
set_option maxHeartbeats 1600000 in
theorem eqSnapS_same (a b : Option Addr) (ca cb n : Nat) (l : List Sn) (w : World) (ha : RdS w a l) (hb : RdS w b l) (hn : n = l.length) (hs : SmallS l) :
    Calls Try.prog 20 #[.slice a n ca, .slice b n cb] w fun e w' => e = .returned (.bool true) ∧ Below w.heap.size w w' := by
  subst hn
  have hne : ((l.length : Int) != (l.length : Int)) = false := by simp
  have HA := hide ha
  have HB := hide hb
  have HS := hide hs
  have hl := hs.1
  clear ha hb hs
  go_enter Try.func20, Try.ntmps20
  go_wp2_with fail
  go_loopw [5] (fun i wr => ∃ k : Nat, k ≤ l.length ∧ i = .int .i64 k ∧ Hid (Below w.heap.size w wr)) (fun i _ => l.length - (intOf i).toNat)
  case atStart => exact ⟨0, Nat.zero_le _, rfl, hide (Below.refl _ _)⟩
  case round =>
    obtain ⟨k, hk, rfl, HW⟩ := hrel
    by_cases hlt : k < l.length
    · obtain ⟨b1, o1, s, x, cc, rfl, hb1, he, c0, c1, c2, c3, c4, hr⟩ := (HA.out.below HW.out).at hlt
      obtain ⟨b2, o2, s2, x2, cc2, rfl, hb2, he2, d0, d1, d2, d3, d4, hr2⟩ := (HB.out.below HW.out).at hlt
      have e9 : s2 = s := by rw [he] at he2; exact (Option.some.inj he2).symm
      subst e9
      have hsm := HS.out.2 s2 (List.mem_of_getElem? he)
      have HT := hide (fun (u : World) (hu : Below wr.heap.size wr u) => eqSnap_same s2 x x2 cc cc2 u (hr.below hu) (hr2.below hu) hsm.2.2.1 hsm.2.2.2)
      have KC : Hid (∀ w' : World, Below wr.heap.size wr w' → (w'.cell? ⟨b1, o1 + k * 5, none⟩ = some (.string (str s2.name)) ∧ w'.cell? ⟨b1, o1 + k * 5 + 1, none⟩ = some (.string (str s2.parent)) ∧ w'.cell? ⟨b1, o1 + k * 5 + 2, none⟩ = some (.int .i64 s2.kind) ∧ w'.cell? ⟨b1, o1 + k * 5 + 3, none⟩ = some (.bool s2.lease) ∧ w'.cell? ⟨b1, o1 + k * 5 + 4, none⟩ = some (.slice x s2.layer.length cc)) ∧ (w'.cell? ⟨b2, o2 + k * 5, none⟩ = some (.string (str s2.name)) ∧ w'.cell? ⟨b2, o2 + k * 5 + 1, none⟩ = some (.string (str s2.parent)) ∧ w'.cell? ⟨b2, o2 + k * 5 + 2, none⟩ = some (.int .i64 s2.kind) ∧ w'.cell? ⟨b2, o2 + k * 5 + 3, none⟩ = some (.bool s2.lease) ∧ w'.cell? ⟨b2, o2 + k * 5 + 4, none⟩ = some (.slice x2 s2.layer.length cc2))) := hide (fun w' hb => ⟨⟨(hb.cell (p := ⟨b1, o1 + k * 5, none⟩) hb1).trans c0, (hb.cell (p := ⟨b1, o1 + k * 5 + 1, none⟩) hb1).trans c1, (hb.cell (p := ⟨b1, o1 + k * 5 + 2, none⟩) hb1).trans c2, (hb.cell (p := ⟨b1, o1 + k * 5 + 3, none⟩) hb1).trans c3, (hb.cell (p := ⟨b1, o1 + k * 5 + 4, none⟩) hb1).trans c4⟩, (hb.cell (p := ⟨b2, o2 + k * 5, none⟩) hb2).trans d0, (hb.cell (p := ⟨b2, o2 + k * 5 + 1, none⟩) hb2).trans d1, (hb.cell (p := ⟨b2, o2 + k * 5 + 2, none⟩) hb2).trans d2, (hb.cell (p := ⟨b2, o2 + k * 5 + 3, none⟩) hb2).trans d3, (hb.cell (p := ⟨b2, o2 + k * 5 + 4, none⟩) hb2).trans d4⟩)
      clear he he2 hr hr2 hsm
      go_wp2_with fail
      go_region_held3 (fun w' => (w'.cell? ⟨b1, o1 + k * 5, none⟩ = some (.string (str s2.name)) ∧ w'.cell? ⟨b1, o1 + k * 5 + 1, none⟩ = some (.string (str s2.parent)) ∧ w'.cell? ⟨b1, o1 + k * 5 + 2, none⟩ = some (.int .i64 s2.kind) ∧ w'.cell? ⟨b1, o1 + k * 5 + 3, none⟩ = some (.bool s2.lease) ∧ w'.cell? ⟨b1, o1 + k * 5 + 4, none⟩ = some (.slice x s2.layer.length cc)) ∧ (w'.cell? ⟨b2, o2 + k * 5, none⟩ = some (.string (str s2.name)) ∧ w'.cell? ⟨b2, o2 + k * 5 + 1, none⟩ = some (.string (str s2.parent)) ∧ w'.cell? ⟨b2, o2 + k * 5 + 2, none⟩ = some (.int .i64 s2.kind) ∧ w'.cell? ⟨b2, o2 + k * 5 + 3, none⟩ = some (.bool s2.lease) ∧ w'.cell? ⟨b2, o2 + k * 5 + 4, none⟩ = some (.slice x2 s2.layer.length cc2))) (first | exact KC.out _ HB1.out | exact KC.out _ (Below.refl _ _).drew | go_keep)
        ((first
          | (go_at_call 40; refine (HT.out _ (Below.refl _ _).drew).mono ?_; rintro r w8 ⟨rfl, b8⟩; have HB1 := hide ((Below.refl wr.heap.size wr).drew.trans b8); clear b8)))
      clear c0 c1 c2 c3 c4 d0 d1 d2 d3 d4
      go_wp2_with fail
      go_roundw
      case rel => exact ⟨k + 1, by omega, by go_num, hide (below_next HW.out HB1.out)⟩
      case measure => simp [intOf]; omega
    · go_wp2_with fail
      go_ret
      exact ⟨rfl, HW.out⟩
theorem trod_five {H : Type} {enc : TypeId × Value → H} {P : Program} {w : World} {base : Nat} {spare : Nat → Bool} {held : Bool} {t : TypeId} {f0 f1 f2 f3 f4 : Field} {fuel : Nat} {cs : List Value} {x : DataW H × List MemPlace}
    (he : P.underlying t = some (.struct #[f0, f1, f2, f3, f4])) (ce : P.cellsOf t = 5) (o0 : f0.offset = 0) (o1 : f1.offset = 1) (o2 : f2.offset = 2) (o3 : f3.offset = 3) (o4 : f4.offset = 4)
    (c0 : P.cellsOf f0.type = 1) (c1 : P.cellsOf f1.type = 1) (c2 : P.cellsOf f2.type = 1) (c3 : P.cellsOf f3.type = 1) (c4 : P.cellsOf f4.type = 1) (h : DataW.trod enc P w base spare held fuel t cs = some x) :
    ∃ (v0 v1 v2 v3 v4 : Value) (n : Nat) (y0 y1 y2 y3 y4 : DataW H × List MemPlace), cs = [v0, v1, v2, v3, v4] ∧ DataW.trod enc P w base spare held n f0.type [v0] = some y0 ∧ DataW.trod enc P w base spare held n f1.type [v1] = some y1 ∧
      DataW.trod enc P w base spare held n f2.type [v2] = some y2 ∧ DataW.trod enc P w base spare held n f3.type [v3] = some y3 ∧ DataW.trod enc P w base spare held n f4.type [v4] = some y4 := by
  obtain ⟨xs, k, hk, hxy, hlen, hxl, hf⟩ := DataW.trod_struct he h
  rw [ce] at hlen
  match xs, hxl, cs, hlen with
  | [y0, y1, y2, y3, y4], _, [v0, v1, v2, v3, v4], _ =>
    have g0 := hf 0 f0 rfl
    have g1 := hf 1 f1 rfl
    have g2 := hf 2 f2 rfl
    have g3 := hf 3 f3 rfl
    have g4 := hf 4 f4 rfl
    simp [o0, o1, o2, o3, o4, c0, c1, c2, c3, c4] at g0 g1 g2 g3 g4
    exact ⟨v0, v1, v2, v3, v4, k, y0, y1, y2, y3, y4, rfl, g0, g1, g2, g3, g4⟩
structure InN (w : World) (s : Sn) (a : Option Addr) : Prop where
  rd : RdE w a s.layer
  nl : s.name.length ≤ maxLen
  pl : s.parent.length ≤ maxLen
  ll : s.layer.length ≤ maxLen
  el : ∀ e ∈ s.layer, e.path.length ≤ maxLen ∧ e.chunks.length ≤ maxLen
theorem InN.max {w : World} {s : Sn} {a : Option Addr} (h : InN w s a) : MaxS s := by
  obtain ⟨-, h1, h2, h3, h4⟩ := h
  unfold maxLen at h1 h2 h3 h4
  exact ⟨by omega, by omega, by omega, fun e he => by have := h4 e he; omega⟩
theorem snap_of_trod {H : Type} {enc : TypeId × Value → H} {W : World} {fuel : Nat} {cs : List Value} {x : DataW H × List MemPlace}
    (h : DataW.trod enc Try.prog W 0 (fun _ => true) true fuel 68 cs = some x) : ∃ (s : Sn) (a : Option Addr) (c : Nat), cs = [.string (str s.name), .string (str s.parent), .int .i64 s.kind, .bool s.lease, .slice a s.layer.length c] ∧ InN W s a := by
  obtain ⟨v0, v1, v2, v3, v4, n, y0, y1, y2, y3, y4, rfl, g0, g1, g2, g3, g4⟩ := trod_five Try.underlying68 (by kernel_rfl) rfl rfl rfl rfl rfl (by kernel_rfl) (by kernel_rfl) (by kernel_rfl) (by kernel_rfl) (by kernel_rfl) h
  obtain ⟨s, hs, _, hsl⟩ := DataW.trod_string Try.underlying9 g0
  obtain ⟨p, hp, _, hpl⟩ := DataW.trod_string Try.underlying9 g1
  obtain ⟨k, hk, _, hkw⟩ := DataW.trod_int Try.underlying2 g2
  obtain ⟨z, hz, _⟩ := DataW.trod_bool Try.underlying4 g3
  obtain ⟨a1, n1, k1, e1⟩ : ∃ a1 n1 k1, v4 = .slice a1 n1 k1 := by
    rcases Deep.open_slice Try.underlying66 g4 with ⟨hcs, _⟩ | ⟨ad2, l2, cp2, m2, fu2, D2, Pl2, hcs, _⟩
    · simp at hcs; exact ⟨_, _, _, hcs⟩
    · simp at hcs; exact ⟨_, _, _, hcs⟩
  rw [e1] at g4
  obtain ⟨es, rfl, hr, hm1, hm2⟩ := entries_of_trod g4
  simp only [List.cons.injEq, and_true] at hs hp hk hz
  subst hs hp hk hz e1
  exact ⟨⟨s.data.toList, p.data.toList, k, z, es⟩, a1, k1, by simp [str_of], ⟨hr, by rw [← Lib.size_eq]; exact hsl, by rw [← Lib.size_eq]; exact hpl, hm1, hm2⟩⟩
theorem snaps_of_trod {H : Type} {enc : TypeId × Value → H} {W : World} {a : Option Addr} {n c fuel : Nat} {x : DataW H × List MemPlace}
    (h : DataW.trod enc Try.prog W 0 (fun _ => true) true fuel 22 [.slice a n c] = some x) :
    ∃ l : List Sn, l.length = n ∧ RdS W a l ∧ l.length ≤ maxLen ∧ ∀ s ∈ l, MaxS s := by
  rcases Deep.open_slice Try.underlying22 h with ⟨hcs, _⟩ | ⟨ad, l, cp, m, fu, D, Pl, hcs, _, hl, hm, hmm, _, hx⟩
  · simp at hcs
    obtain ⟨rfl, rfl, rfl⟩ := hcs
    exact ⟨[], rfl, fun h => absurd rfl h, Nat.zero_le _, fun e he => by simp at he⟩
  · simp at hcs
    obtain ⟨rfl, rfl, rfl⟩ := hcs
    simp only [if_true] at hmm
    subst hmm
    have ce : Try.prog.cellsOf 68 = 5 := by kernel_rfl
    have each : ∀ i, i < n → ∃ q : Sn × Option Addr × Nat, (W.cell? (ad.add (i * 5)) = some (.string (str q.1.name)) ∧ W.cell? (ad.add (i * 5 + 1)) = some (.string (str q.1.parent)) ∧ W.cell? (ad.add (i * 5 + 2)) = some (.int .i64 q.1.kind) ∧ W.cell? (ad.add (i * 5 + 3)) = some (.bool q.1.lease) ∧ W.cell? (ad.add (i * 5 + 4)) = some (.slice q.2.1 q.1.layer.length q.2.2)) ∧ InN W q.1 q.2.1 := by
      intro i hi
      obtain ⟨cs', h1, h2⟩ := hx i (by omega)
      rw [ce] at h1
      obtain ⟨s, a1, c1, rfl, hin⟩ := snap_of_trod h2
      obtain ⟨_, hlen, hcell⟩ := World.cells?_some h1
      have e0 := hcell 0 (by omega)
      have e1 := hcell 1 (by omega)
      have e2 := hcell 2 (by omega)
      have e3 := hcell 3 (by omega)
      have e4 := hcell 4 (by omega)
      rw [Deep.add_add] at e0 e1 e2 e3 e4
      exact ⟨(s, a1, c1), ⟨by simpa using e0, by simpa using e1, by simpa using e2, by simpa using e3, by simpa using e4⟩, hin⟩
    haveI : Inhabited (Sn × Option Addr × Nat) := ⟨(zSn, none, 0)⟩
    obtain ⟨q, hq⟩ := Deep.choose_lt each
    refine ⟨(List.range n).map fun i => (q i).1, by simp, ?_, by simp; omega, ?_⟩
    · intro hz
      have hn : 0 < n := by
        rcases Nat.eq_zero_or_pos n with h0 | h0
        · subst h0; exact absurd rfl hz
        · exact h0
      obtain ⟨b, off, spot⟩ := ad
      have hspot : spot = none := by simpa [Addr.add] using World.cell?_spot (hq 0 hn).1.1
      subst hspot
      refine ⟨b, off, fun i => (q i).2.1, fun i => (q i).2.2, rfl, World.block_lt_of_cell? W _ (by simpa [Addr.add] using (hq 0 hn).1.1), fun i s he => ?_⟩
      have hi : i < n := by have := (List.getElem?_eq_some_iff.1 he).1; simpa using this
      have hee : (q i).1 = s := by simpa [hi] using he
      subst hee
      obtain ⟨⟨c0, c1, c2, c3, c4⟩, hin⟩ := hq i hi
      rw [add_addr] at c0 c1 c2 c3 c4
      exact ⟨c0, by rw [Nat.add_assoc]; exact c1, by rw [Nat.add_assoc]; exact c2, by rw [Nat.add_assoc]; exact c3, by rw [Nat.add_assoc]; exact c4, hin.rd⟩
    · intro s hs
      obtain ⟨i, hi, rfl⟩ := List.mem_map.1 hs
      exact (hq i (List.mem_range.1 hi)).2.max
end Go.Proofs.Ytfamojijgjmcmaa

namespace Go.Proofs.Ytfamojijgjmcmaa
open Go.RowKit
set_option linter.unusedVariables false

set_option maxHeartbeats 800000 in
theorem equal_any (a b : Option Addr) (ca cb : Nat) (xs ys : List Int) (w : World) (ha : Reads .i64 w a xs) (hb : Reads .i64 w b ys) (hl : xs.length ≤ 1048576) (hl2 : ys.length ≤ 1048576) :
    Calls Try.prog 37 #[.slice a xs.length ca, .slice b ys.length cb] w fun e w' => e = .returned (.bool (xs == ys)) ∧ ∃ n, w' = w.drewN n := by
  by_cases hlen : xs.length = ys.length
  · have hne : ((xs.length : Int) != (ys.length : Int)) = false := by simp [hlen]
    go_enter Try.func37, Try.ntmps37
    go_wp2
    go_loopw [13] (fun i wr => ∃ k : Nat, k ≤ xs.length ∧ i = .int .i64 k ∧ xs.take k = ys.take k ∧ ∃ n, wr = w.drewN n) (fun i _ => xs.length - (intOf i).toNat)
    case atStart => exact ⟨0, Nat.zero_le _, rfl, rfl, 0, rfl⟩
    case round =>
      obtain ⟨k, hk, rfl, htk, n, rfl⟩ := hrel
      have HT := hide htk
      clear htk
      by_cases hlt : k < xs.length
      · obtain ⟨b1, o1, rfl, hb1, hc1⟩ := ha (by intro e; simp [e] at hlt)
        obtain ⟨b2, o2, rfl, hb2, hc2⟩ := hb (by intro e; rw [e] at hlen; simp at hlen; simp [hlen] at hlt)
        obtain ⟨x, hx⟩ : ∃ x, x = xs.getD k 0 := ⟨_, rfl⟩
        obtain ⟨y, hy⟩ : ∃ y, y = ys.getD k 0 := ⟨_, rfl⟩
        have c1 : w.cell? ⟨b1, o1 + k, none⟩ = some (.int .i64 x) := by rw [hx]; exact hc1 k hlt
        have c2 : w.cell? ⟨b2, o2 + k, none⟩ = some (.int .i64 y) := by rw [hy]; exact hc2 k (by omega)
        have HX := hide hx
        have HY := hide hy
        clear hc1 hc2 ha hb hx hy
        have hk2 : k < ys.length := by omega
        by_cases heq : x = y
        · have hb : (x != y) = false := by simp [heq]
          have HE := hide heq
          clear heq
          go_wp2
          go_quiet (fail)
          go_wp2
          go_roundw
          case rel => exact ⟨k + 1, by omega, by go_num, take_eq_step hlt hk2 HT.out (by rw [← HX.out, ← HY.out]; exact HE.out), _, rfl⟩
          case measure => simp [intOf]; omega
        · have hb : (x != y) = true := by simp [heq]
          go_wp2
          go_quiet (fail)
          go_wp2
          go_ret
          exact ⟨ret_bool (ne_of_getD (k := k) (by rw [← HX.out, ← HY.out]; exact heq)).symm, _, World.drewN_drewN _ _ _⟩
      · go_wp2
        go_ret
        exact ⟨ret_bool (eq_of_take (k := k) (by omega) (by omega) HT.out).symm, _, rfl⟩
  · have hne : ((xs.length : Int) != (ys.length : Int)) = true := by simp; omega
    go_enter Try.func37, Try.ntmps37
    go_wp2
    go_ret
    have e : (xs == ys) = false := by simp; intro e; exact hlen (by rw [e])
    exact ⟨ret_bool e.symm, 0, rfl⟩

set_option maxHeartbeats 800000 in
theorem sameBytes_any (z y : Int) (a b : Option Addr) (ca cb : Nat) (xs ys : List Int) (w : World) (ha : Reads .i64 w a xs) (hb : Reads .i64 w b ys) (hl : xs.length ≤ 1048576) (hl2 : ys.length ≤ 1048576) :
    Calls Try.prog 60 #[.agg #[.int .i64 z, .slice a xs.length ca], .agg #[.int .i64 y, .slice b ys.length cb]] w fun e w' => e = .returned (.bool (decide (z = y) && (xs == ys))) ∧ Below w.heap.size w w' := by
  have HB := hide (below_next (below_alloc w (.cells #[.int .i64 z, .slice a xs.length ca] 98)) (below_alloc _ (.cells #[.int .i64 y, .slice b ys.length cb] 98)))
  have HR := hide ha
  have HR2 := hide hb
  clear ha hb
  by_cases h : z = y
  · have hb : (z == y) = true := by simp [h]
    have HE := hide (show (decide (z = y) && (xs == ys)) = (xs == ys) from by simp [h])
    clear h
    rw [HE.out]
    obtain ⟨Z, hZ⟩ : ∃ Z : Bool, Z = (xs == ys) := ⟨_, rfl⟩
    rw [← hZ]
    have HZ := hide hZ
    clear hZ HE
    go_enter Try.func60, Try.ntmps60
    go_wp2_with fail
    refine (equal_any a b ca cb xs ys _ (HR.out.below HB.out) (HR2.out.below HB.out) hl hl2).mono ?_
    rintro r w1 ⟨rfl, n, rfl⟩
    rw [← HZ.out]
    go_wp2_with fail
    cases Z
    · go_ret
      exact ⟨rfl, below_drewN HB.out n⟩
    · go_ret
      exact ⟨rfl, below_drewN HB.out n⟩
  · have hb : (z == y) = false := by simp [h]
    have HE := hide (show (decide (z = y) && (xs == ys)) = false from by simp [h])
    clear h
    rw [HE.out]
    go_enter Try.func60, Try.ntmps60
    go_wp2_with fail
    go_ret
    exact ⟨rfl, HB.out⟩

set_option maxHeartbeats 800000 in
theorem same_any (e f : En) (a b : Option Addr) (ca cb : Nat) (w : World) (ha : Reads .i64 w a e.chunks) (hb : Reads .i64 w b f.chunks) (hl : e.chunks.length ≤ 1048576) (hl2 : f.chunks.length ≤ 1048576) :
    Calls Try.prog 53 #[.agg #[.int .i64 e.size, .slice a e.chunks.length ca, .string (str e.path), .int .i64 e.kind], .agg #[.int .i64 f.size, .slice b f.chunks.length cb, .string (str f.path), .int .i64 f.kind]] w fun r w' => r = .returned (.bool (decide (e = f))) ∧ Below w.heap.size w w' := by
  have HB := hide (below_next (below_alloc w (.cells #[.int .i64 e.size, .slice a e.chunks.length ca, .string (str e.path), .int .i64 e.kind] 100)) (below_alloc _ (.cells #[.int .i64 f.size, .slice b f.chunks.length cb, .string (str f.path), .int .i64 f.kind] 100)))
  have HR := hide ha
  have HR2 := hide hb
  clear ha hb
  by_cases hp : e.path = f.path
  · have hs1 := str_yes hp
    by_cases hk : e.kind = f.kind
    · have hk1 : (e.kind == f.kind) = true := by simp [hk]
      have HE := hide (show decide (e = f) = (decide (e.size = f.size) && (e.chunks == f.chunks)) from by
        by_cases h1 : e.size = f.size
        · by_cases h2 : e.chunks = f.chunks
          · rw [decide_eq_true (En.same hp hk h1 h2)]; simp [h1, h2]
          · rw [decide_eq_false (fun x => h2 (by rw [x]))]; simp [h2]
        · rw [decide_eq_false (fun x => h1 (by rw [x]))]; simp [h1])
      clear hp hk
      generalize decide (e = f) = Z at HE ⊢
      go_enter Try.func53, Try.ntmps53
      go_wp2_with fail
      refine (sameBytes_any _ _ a b ca cb e.chunks f.chunks _ (HR.out.below HB.out) (HR2.out.below HB.out) hl hl2).mono ?_
      rintro r w1 ⟨rfl, hb1⟩
      rw [← HE.out]
      have HB1 := hide (below_next HB.out hb1)
      clear hb1 HE
      go_wp2_with fail
      cases Z
      · go_ret
        exact ⟨rfl, HB1.out⟩
      · go_ret
        exact ⟨rfl, HB1.out⟩
    · have hk1 : (e.kind == f.kind) = false := by simp [hk]
      have HE := hide (show decide (e = f) = false from decide_eq_false (fun x => hk (by rw [x])))
      clear hp hk
      generalize decide (e = f) = Z at HE ⊢
      go_enter Try.func53, Try.ntmps53
      go_wp2_with fail
      go_ret
      exact ⟨ret_bool HE.out.symm, HB.out⟩
  · have hs1 := str_no hp
    have HE := hide (show decide (e = f) = false from decide_eq_false (fun x => hp (by rw [x])))
    clear hp
    generalize decide (e = f) = Z at HE ⊢
    go_enter Try.func53, Try.ntmps53
    go_wp2_with fail
    go_ret
    exact ⟨ret_bool HE.out.symm, HB.out⟩

set_option maxHeartbeats 1600000 in
theorem sameLit_any (e f : En) (a b : Option Addr) (ca cb : Nat) (w : World) (ha : Reads .i64 w a e.chunks) (hb : Reads .i64 w b f.chunks) (hl : e.chunks.length ≤ 1048576) (hl2 : f.chunks.length ≤ 1048576) :
    Calls Try.prog 51 #[.agg #[.string (str e.path), .int .i64 e.kind, .int .i64 e.size, .slice a e.chunks.length ca], .agg #[.string (str f.path), .int .i64 f.kind, .int .i64 f.size, .slice b f.chunks.length cb]] w fun r w' => r = .returned (.bool (decide (e = f))) ∧ Below w.heap.size w w' := by
  have HB := hide (below_next (below_alloc w (.cells #[.string (str e.path), .int .i64 e.kind, .int .i64 e.size, .slice a e.chunks.length ca] 91)) (below_alloc _ (.cells #[.string (str f.path), .int .i64 f.kind, .int .i64 f.size, .slice b f.chunks.length cb] 91)))
  have F1 := hide ((Four.new w (.string (str e.path)) (.int .i64 e.kind) (.int .i64 e.size) (.slice a e.chunks.length ca) 91).below (below_alloc _ (.cells #[.string (str f.path), .int .i64 f.kind, .int .i64 f.size, .slice b f.chunks.length cb] 91)))
  have F2 := hide (Four.new (w.alloc (.cells #[.string (str e.path), .int .i64 e.kind, .int .i64 e.size, .slice a e.chunks.length ca] 91)) (.string (str f.path)) (.int .i64 f.kind) (.int .i64 f.size) (.slice b f.chunks.length cb) 91)
  have h1 : (w.alloc (.cells #[.string (str e.path), .int .i64 e.kind, .int .i64 e.size, .slice a e.chunks.length ca] 91)).heap.size = w.heap.size + 1 := by simp
  rw [h1] at F2
  clear h1
  have HR := hide (ha.below HB.out)
  have HR2 := hide (hb.below HB.out)
  clear ha hb
  obtain ⟨Z, hZ⟩ : ∃ Z : Bool, Z = decide (e = f) := ⟨_, rfl⟩
  rw [← hZ]
  have HZ := hide hZ
  clear hZ
  go_enter Try.func51, Try.ntmps51
  go_wp2_with fail
  generalize (w.alloc (.cells #[.string (str e.path), .int .i64 e.kind, .int .i64 e.size, .slice a e.chunks.length ca] 91)).alloc (.cells #[.string (str f.path), .int .i64 f.kind, .int .i64 f.size, .slice b f.chunks.length cb] 91) = W at *
  have KC : Hid (∀ w' : World, Below W.heap.size W w' → (w'.cell? ⟨w.heap.size, 0, none⟩ = some (.string (str e.path)) ∧ w'.cell? ⟨w.heap.size, 1, none⟩ = some (.int .i64 e.kind) ∧ w'.cell? ⟨w.heap.size, 2, none⟩ = some (.int .i64 e.size) ∧ w'.cell? ⟨w.heap.size, 3, none⟩ = some (.slice a e.chunks.length ca)) ∧ w'.cell? ⟨w.heap.size + 1, 0, none⟩ = some (.string (str f.path)) ∧ w'.cell? ⟨w.heap.size + 1, 1, none⟩ = some (.int .i64 f.kind) ∧ w'.cell? ⟨w.heap.size + 1, 2, none⟩ = some (.int .i64 f.size) ∧ w'.cell? ⟨w.heap.size + 1, 3, none⟩ = some (.slice b f.chunks.length cb)) := hide (fun w' hb => ⟨F1.out.below hb, F2.out.below hb⟩)
  obtain ⟨p0, p1, p2, p3⟩ := F1.out
  obtain ⟨q0, q1, q2, q3⟩ := F2.out
  go_region_held3 (fun w' => (w'.cell? ⟨w.heap.size, 0, none⟩ = some (.string (str e.path)) ∧ w'.cell? ⟨w.heap.size, 1, none⟩ = some (.int .i64 e.kind) ∧ w'.cell? ⟨w.heap.size, 2, none⟩ = some (.int .i64 e.size) ∧ w'.cell? ⟨w.heap.size, 3, none⟩ = some (.slice a e.chunks.length ca)) ∧ w'.cell? ⟨w.heap.size + 1, 0, none⟩ = some (.string (str f.path)) ∧ w'.cell? ⟨w.heap.size + 1, 1, none⟩ = some (.int .i64 f.kind) ∧ w'.cell? ⟨w.heap.size + 1, 2, none⟩ = some (.int .i64 f.size) ∧ w'.cell? ⟨w.heap.size + 1, 3, none⟩ = some (.slice b f.chunks.length cb)) (first | exact KC.out _ BB3.out | exact KC.out _ BB2.out | exact KC.out _ BB1.out | go_keep)
    ((first
      | (go_at_call 52; refine (itemOf_any _ _ _ _ _ _ _).mono ?_; rintro r w2 ⟨rfl, hb2⟩; have BB2 := hide (below_next BB1.out hb2); clear hb2)
      | (go_at_call 52; refine (itemOf_any _ _ _ _ _ _ _).mono ?_; rintro r w1 ⟨rfl, hb1⟩; have BB1 := hide ((Below.refl W.heap.size W).drew.trans hb1); clear hb1)
      | (go_at_call 53; refine (same_any e f _ _ _ _ _ (HR.out.below BB2.out) (HR2.out.below BB2.out) hl hl2).mono ?_; rintro r w3 ⟨rfl, hb3⟩; rw [← HZ.out]; have BB3 := hide (below_next BB2.out hb3); clear hb3)))
  go_wp2_with fail
  go_ret
  exact ⟨rfl, below_next HB.out BB3.out⟩

set_option maxRecDepth 100000 in
set_option maxHeartbeats 1600000 in
theorem equalFunc_any (a b : Option Addr) (c d n m : Nat) (es fs : List En) (w : World) (h : RdE w a es) (h2 : RdE w b fs) (hn : n = es.length) (hm : m = fs.length) (hl : es.length ≤ 1048576) (hl2 : fs.length ≤ 1048576) (hs : SmallE es) (hs2 : SmallE fs) :
    Calls Try.prog 50 #[.slice a n c, .slice b m d, .func (.func 51) #[] #[]] w fun r w' => r = .returned (.bool (decide (es = fs))) ∧ Below w.heap.size w w' := by
  subst hn hm
  obtain ⟨Z, hZ⟩ : ∃ Z : Bool, Z = decide (es = fs) := ⟨_, rfl⟩
  rw [← hZ]
  have HZ := hide hZ
  clear hZ
  have HA := hide h
  have HB := hide h2
  have HS := hide hs
  have HS2 := hide hs2
  clear h h2 hs hs2
  by_cases hlen : es.length = fs.length
  · have hne : ((es.length : Int) != (fs.length : Int)) = false := by simp [hlen]
    have HL := hide hlen
    clear hlen
    go_enter Try.func50, Try.ntmps50
    go_wp2_with fail
    go_loopw [17] (fun i wr => ∃ k : Nat, k ≤ es.length ∧ i = .int .i64 k ∧ Hid (es.take k = fs.take k) ∧ Hid (Below w.heap.size w wr)) (fun i _ => es.length - (intOf i).toNat)
    case atStart => exact ⟨0, Nat.zero_le _, rfl, hide rfl, hide (Below.refl _ _)⟩
    case round =>
      obtain ⟨k, hk, rfl, HT, HW⟩ := hrel
      by_cases hlt : k < es.length
      · obtain ⟨b1, o1, e, x1, c1, rfl, hb1, he, p0, p1, p2, p3, r1⟩ := (HA.out.below HW.out).at hlt
        obtain ⟨b2, o2, f, x2, c2, rfl, hb2, hf, q0, q1, q2, q3, r2⟩ := (HB.out.below HW.out).at (show k < fs.length by have := HL.out; omega)
        have hsm := HS.out e (List.mem_of_getElem? he)
        have hsm2 := HS2.out f (List.mem_of_getElem? hf)
        have HX := hide he
        have HX2 := hide hf
        have R1 := hide r1
        have R2 := hide r2
        clear he hf r1 r2
        have hkl : (k : Int) < (fs.length : Int) := by have := HL.out; omega
        have BA := hide (below_next (below_alloc wr (.cells #[.string (str e.path), .int .i64 e.kind, .int .i64 e.size, .slice x1 e.chunks.length c1] 91)) (below_alloc _ (.cells #[.string (str f.path), .int .i64 f.kind, .int .i64 f.size, .slice x2 f.chunks.length c2] 91)))
        go_wp2_with fail
        refine (sameLit_any e f _ _ _ _ _ (R1.out.below BA.out) (R2.out.below BA.out) hsm.2 hsm2.2).mono ?_
        rintro r w3 ⟨rfl, hb3⟩
        have HW3 := hide (below_next HW.out (below_next BA.out hb3))
        clear hb3 p0 p1 p2 p3 q0 q1 q2 q3
        by_cases hef : e = f
        · rw [decide_eq_true hef]
          have HT2 := hide (take_both HX.out HX2.out HT.out hef)
          clear hef
          go_wp2_with fail
          go_roundw
          case rel => exact ⟨k + 1, by omega, by go_num, HT2, HW3⟩
          case measure => simp [intOf]; omega
        · rw [decide_eq_false hef]
          have HE := hide (show Z = false from by rw [HZ.out]; exact ne_at HX.out HX2.out hef)
          clear hef
          go_wp2_with fail
          go_ret
          exact ⟨ret_bool HE.out.symm, HW3.out⟩
      · have hke : k = es.length := by omega
        have HE := hide (show Z = true from by rw [HZ.out]; exact decide_eq_true (take_whole HT.out (by omega) (by have := HL.out; omega)))
        clear hke
        go_wp2_with fail
        go_ret
        exact ⟨ret_bool HE.out.symm, HW.out⟩
  · have hne : ((es.length : Int) != (fs.length : Int)) = true := by simp; omega
    have HE := hide (show Z = false from by rw [HZ.out]; exact decide_eq_false (fun x => hlen (by rw [x])))
    clear hlen
    go_enter Try.func50, Try.ntmps50
    go_wp2_with fail
    go_ret
    exact ⟨ret_bool HE.out.symm, Below.refl _ _⟩

set_option maxRecDepth 100000 in
theorem implSameLayers_any (a b : Option Addr) (c d n m : Nat) (es fs : List En) (w : World) (h : RdE w a es) (h2 : RdE w b fs) (hn : n = es.length) (hm : m = fs.length) (hl : es.length ≤ 1048576) (hl2 : fs.length ≤ 1048576) (hs : SmallE es) (hs2 : SmallE fs) :
    Calls Try.prog 35 #[.slice a n c, .slice b m d] w fun r w' => r = .returned (.bool (decide (es = fs))) ∧ Below w.heap.size w w' := by
  have HF := hide (equalFunc_any a b c d n m es fs w h h2 hn hm hl hl2 hs hs2)
  clear h h2 hn hm hl hl2 hs hs2
  generalize decide (es = fs) = Z at HF ⊢
  go_enter Try.func35, Try.ntmps35
  go_wp2_with fail
  refine HF.out.mono ?_
  rintro r w1 ⟨rfl, hb⟩
  have HB := hide hb
  clear hb
  go_wp2_with fail
  go_ret
  exact ⟨rfl, HB.out⟩

end Go.Proofs.Ytfamojijgjmcmaa

