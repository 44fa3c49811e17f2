/-
  Cutting at any one byte: the model's l3Cut, and strings.Cut.
-/
import Derived.Test.YtcknabinmbknaaaGreatDoorJ1
import Derived.Test.YtcknabinmbknaaaGreatDoorTxtL
import Derived.Test.YtcknabinmbknaaaGreatDoorLayP
import Derived.Lib.IndexLaws
namespace Go.Proofs.YtcknabinmbknaaaGreatDoor
open Go.RowKit
set_option linter.unusedVariables false

theorem joinC_lib (m : UInt8) : ∀ (ps : List Bs), Lib.join ps [m] = joinC m ps
  | [] => rfl
  | [p] => by simp [Lib.join_cons, Lib.joinTail, joinC]
  | p :: q :: r => by
    have ih := joinC_lib m (q :: r)
    rw [Lib.join_cons] at ih ⊢
    simp only [Lib.joinTail, List.map_cons, List.flatten_cons, joinC, List.cons_append, List.nil_append] at ih ⊢
    rw [ih]

/-- What the model has cut up to byte k, the piece at hand beginning at j. -/
def cutAtC (m : UInt8) (l : Bs) (q : List Bs) (j k : Nat) : Prop := (k ≤ l.length → cutC m (l.take k) = q ++ [(l.drop j).take (k - j)]) ∧ (l.length < k → q = cutC m l)
theorem cutAtC_zero (m : UInt8) (l : Bs) : cutAtC m l [] 0 0 := ⟨fun _ => by simp [cutC], fun h => by omega⟩
theorem cutAtC_end {m : UInt8} {l : Bs} {q : List Bs} {j : Nat} (h : cutAtC m l q j l.length) : cutAtC m l (q ++ [(l.drop j).take (l.length - j)]) (l.length + 1) (l.length + 1) := by
  refine ⟨fun h => by omega, fun _ => ?_⟩
  rw [← h.1 (Nat.le_refl _), List.take_length]
theorem cutAtC_hit {m : UInt8} {s : ByteArray} {q : List Bs} {j k : Nat} (h : cutAtC m s.data.toList q j k) (hk : k < s.size) (hj : j ≤ k) (hc : s[k] = m) : cutAtC m s.data.toList (q ++ [(s.data.toList.drop j).take (k - j)]) (k + 1) (k + 1) := by
  have hl : s.data.toList.length = s.size := (Lib.size_eq s).symm
  refine ⟨fun _ => ?_, fun h' => by omega⟩
  rw [small_take_snoc s k hk, cutC_snoc _ _ _ _ (h.1 (by omega)), if_pos hc]
  simp
theorem cutAtC_miss {m : UInt8} {s : ByteArray} {q : List Bs} {j k : Nat} (h : cutAtC m s.data.toList q j k) (hk : k < s.size) (hj : j ≤ k) (hc : s[k] ≠ m) : cutAtC m s.data.toList q j (k + 1) := by
  have hl : s.data.toList.length = s.size := (Lib.size_eq s).symm
  refine ⟨fun _ => ?_, fun h' => by omega⟩
  rw [small_take_snoc s k hk, cutC_snoc _ _ _ _ (h.1 (by omega)), if_neg hc, take_piece s hj hk]

set_option maxRecDepth 100000 in
set_option maxHeartbeats 1600000 in
theorem l3CutC_any (m : UInt8) (s : ByteArray) (w : World) (hs : s.size ≤ 2097152) :
    Calls Tryz.prog 62 #[.string s, .int .u8 m.toNat] w fun e w' => ∃ v, e = .returned v ∧ OwnS w.heap.size w' v (cutC m s.data.toList) ∧ Below w.heap.size w w' := by
  obtain ⟨i1, ki, kz0, kz1, kz2⟩ := info_parts infoS
  have hl : s.data.toList.length = s.size := (Lib.size_eq s).symm
  have HL := hide hl
  clear hl
  have O1 := hide (World.ownsRow_made (base := w.heap.size) (e := 9) (size := 1) w #[] 0 (Nat.le_refl _) (Nat.zero_le _) rfl)
  have hm0 := m.toNat_lt
  go_enter Tryz.func62, Tryz.ntmps62
  go_wp2_with fail
  go_loopw [5, 6, 7] (fun v f i wr => ∃ (k j : Nat) (q : List Bs), k ≤ s.size + 1 ∧ j ≤ k ∧ q.length ≤ k ∧ i = .int .i64 k ∧ f = .int .i64 j ∧ Hid (OwnS w.heap.size wr v q) ∧ Hid (cutAtC m s.data.toList q j k) ∧ Hid (Below w.heap.size w wr)) (fun _ _ i _ => s.size + 1 - (intOf i).toNat)
  case atStart => exact ⟨0, 0, [], by omega, by omega, by simp, rfl, rfl, hide O1.out, hide (cutAtC_zero m _), hide (below_alloc _ _)⟩
  case round =>
    obtain ⟨k, j, q, hk, hj, hq, rfl, rfl, HO, HC, HB⟩ := hrel
    obtain ⟨va, vc, rfl⟩ := HO.out.shape
    have hm1 : q.length + 1 ≤ maxLen := by unfold maxLen; omega
    have hm2 : (q.length + 1) * 16 ≤ 140737488355328 := by omega
    have hsz := HB.out.size
    have HX := hide (show s.extract j k = str ((s.data.toList.drop j).take (k - j)) from Lib.extract_eq s j k)
    by_cases hlt : k < s.size
    · by_cases hc : (s[k].toNat : Int) = m.toNat
      · have hne : ((k : Int) == (s.size : Int)) = false := by simp; omega
        have HN := hide (cutAtC_hit HC.out hlt hj (by apply UInt8.toNat_inj.1; omega))
        go_wp2_with (at_builtin; refine wpList_append_one rfl (.tmp 26) (.tmp 31) 59 rfl w.heap.size 9 i1 (.string ⟨#[]⟩) 1 16 Tryz.underlying59 ki kz0 kz1 kz2 rfl (by decide) _ _ _ rfl HO.out rfl rfl (by intro u hu; simp at hu; subst hu; rfl) hm1 hm2 hsz ?_; intro v' w2 hown2 hkept; have O2 := hide hown2; have K2 := hide hkept; clear hown2 hkept)
        go_roundw
        case rel => exact ⟨k + 1, k + 1, q ++ [(s.data.toList.drop j).take (k - j)], by omega, by omega, by simp; omega, by go_num, by go_num, hide (OwnS.snoc O2.out HX.out), HN, hide (Kept.below_own HB.out hsz HO.out K2.out)⟩
        case measure => simp [intOf]; omega
      · have hne : ((k : Int) == (s.size : Int)) = false := by simp; omega
        have hne2 : ((s[k].toNat : Int) == (m.toNat : Int)) = false := by simp; omega
        have HN := hide (cutAtC_miss HC.out hlt hj (by intro e; apply hc; rw [e]))
        go_wp2
        go_roundw
        case rel => exact ⟨k + 1, j, q, by omega, by omega, by omega, by go_num, rfl, HO, HN, HB⟩
        case measure => simp [intOf]; omega
    · by_cases hk2 : k = s.size
      · subst hk2
        have HN := hide (show cutAtC m s.data.toList (q ++ [(s.data.toList.drop j).take (s.size - j)]) (s.size + 1) (s.size + 1) by have h := HC.out; rw [← HL.out] at h ⊢; exact cutAtC_end h)
        go_wp2_with (at_builtin; refine wpList_append_one rfl (.tmp 26) (.tmp 31) 59 rfl w.heap.size 9 i1 (.string ⟨#[]⟩) 1 16 Tryz.underlying59 ki kz0 kz1 kz2 rfl (by decide) _ _ _ rfl HO.out rfl rfl (by intro u hu; simp at hu; subst hu; rfl) hm1 hm2 hsz ?_; intro v' w2 hown2 hkept; have O2 := hide hown2; have K2 := hide hkept; clear hown2 hkept)
        go_roundw
        case rel => exact ⟨s.size + 1, s.size + 1, q ++ [(s.data.toList.drop j).take (s.size - j)], by omega, by omega, by simp; omega, by go_num, by go_num, hide (OwnS.snoc O2.out HX.out), HN, hide (Kept.below_own HB.out hsz HO.out K2.out)⟩
        case measure => simp [intOf]
      · have hk3 : ¬ (k : Int) ≤ (s.size : Int) := by omega
        have HN := hide (HC.out.2 (by rw [HL.out]; omega))
        go_wp2
        go_ret
        exact ⟨_, rfl, by rw [← HN.out]; exact HO.out, HB.out⟩

theorem indexMark_any (m : UInt8) (s : ByteArray) (w : World) :
    Calls Tryz.prog 136 #[.string s, .string ⟨#[m]⟩] w fun e w' => e = .returned (.int .i64 (Lib.indexByte s.data.toList m)) ∧ w' = w :=
  Any.stringslite_Index_one Tryz.indexA s m w

theorem indexC_miss {m : UInt8} {l : Bs} (h : m ∉ l) : Lib.indexByte l m = -1 := by
  induction l with
  | nil => rfl
  | cons c l ih =>
    have h1 : ¬ c = m := fun e => h (by simp [e])
    have h2 : m ∉ l := fun e => h (by simp [e])
    simp [Lib.indexByte, h1, ih h2]
theorem indexC_hit {m : UInt8} {a : Bs} (b : Bs) (h : m ∉ a) : Lib.indexByte (a ++ m :: b) m = a.length := by
  induction a with
  | nil => simp [Lib.indexByte]
  | cons c a ih =>
    have h1 : ¬ c = m := fun e => h (by simp [e])
    have h2 : m ∉ a := fun e => h (by simp [e])
    have ih := ih h2
    simp only [List.cons_append, Lib.indexByte, ih]
    have : ((a.length : Int) == -1) = false := by simp
    simp [h1, this]

set_option maxRecDepth 100000 in
set_option maxHeartbeats 800000 in
theorem cutLiteC_miss (m : UInt8) (l : Bs) (w : World) (h : m ∉ l) :
    Calls Tryz.prog 124 #[.string (str l), .string ⟨#[m]⟩] w fun e w' => e = .returned (.tuple #[.string (str l), .string ⟨#[]⟩, .bool false]) ∧ ∃ n, w' = w.drewN n := by
  have HI := hide (indexC_miss h)
  go_enter Tryz.func124, Tryz.ntmps124
  go_wp2_with (go_at_call 136; refine (indexMark_any _ _ _).mono ?_; rintro e w' ⟨rfl, rfl⟩; rw [str_data, HI.out])
  go_ret3
  exact ⟨rfl, 0, rfl⟩
theorem cutStr_miss (m : UInt8) (l : Bs) (w : World) (h : m ∉ l) :
    Calls Tryz.prog 95 #[.string (str l), .string ⟨#[m]⟩] w fun e w' => e = .returned (.tuple #[.string (str l), .string ⟨#[]⟩, .bool false]) ∧ ∃ n, w' = w.drewN n := by
  go_enter Tryz.func95, Tryz.ntmps95
  go_wp2_with (go_at_call 124; refine (cutLiteC_miss _ _ _ h).mono ?_; rintro e w' ⟨rfl, n, rfl⟩)
  go_ret3
  exact ⟨rfl, n, rfl⟩
set_option maxRecDepth 100000 in
set_option maxHeartbeats 800000 in
theorem cutLiteC_hit (m : UInt8) (a b : Bs) (w : World) (h : m ∉ a) (hl : a.length ≤ 9223372036854775806) :
    Calls Tryz.prog 124 #[.string (str (a ++ m :: b)), .string ⟨#[m]⟩] w fun e w' => e = .returned (.tuple #[.string (str a), .string (str b), .bool true]) ∧ ∃ n, w' = w.drewN n := by
  have HI := hide (indexC_hit b h)
  have c0 : (0 : Int) ≤ a.length := by omega
  have c1 : (a.length : Int) ≤ ((str (a ++ m :: b)).size : Int) := by rw [str_size]; simp; omega
  have c2 : (a.length : Int) + 1 ≤ ((str (a ++ m :: b)).size : Int) := by rw [str_size]; simp; omega
  have HA := hide (show (str (a ++ m :: b)).extract 0 a.length = str a by rw [Lib.extract_eq, str_data]; simp [str])
  have HB := hide (show (str (a ++ m :: b)).extract (a.length + 1) (str (a ++ m :: b)).size = str b by rw [Lib.extract_eq, str_data, str_size, show (a ++ m :: b).drop (a.length + 1) = b by simp, List.take_of_length_le (by simp; omega)]; rfl)
  have hm : (a.length : Int) ≤ 9223372036854775806 := by omega
  generalize hx : str (a ++ m :: b) = x at *
  have HX := hide hx
  clear hx
  go_enter Tryz.func124, Tryz.ntmps124
  go_wp2_with (go_at_call 136; refine (indexMark_any _ _ _).mono ?_; rintro e w' ⟨rfl, rfl⟩; rw [← HX.out, str_data, HI.out, HX.out])
  go_region
  go_wp2
  go_ret3
  exact ⟨by rw [HA.out, HB.out]; rfl, 1, rfl⟩
theorem cutStr_hit (m : UInt8) (a b : Bs) (w : World) (h : m ∉ a) (hl : a.length ≤ 9223372036854775806) :
    Calls Tryz.prog 95 #[.string (str (a ++ m :: b)), .string ⟨#[m]⟩] w fun e w' => e = .returned (.tuple #[.string (str a), .string (str b), .bool true]) ∧ ∃ n, w' = w.drewN n := by
  go_enter Tryz.func95, Tryz.ntmps95
  go_wp2_with (go_at_call 124; refine (cutLiteC_hit _ _ _ _ h hl).mono ?_; rintro e w' ⟨rfl, n, rfl⟩)
  go_ret3
  exact ⟨rfl, n, rfl⟩

end Go.Proofs.YtcknabinmbknaaaGreatDoor
