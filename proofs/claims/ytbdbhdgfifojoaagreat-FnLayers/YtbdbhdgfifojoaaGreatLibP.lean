/-
  Contracts of the library's functions that paths call: strings.Cut and strings.CutPrefix at a stroke, strings.Join with strokes, strings.Clone, slices.Contains.
-/
import Derived.Test.YtbdbhdgfifojoaaGreatPathS
import Derived.Test.YtbdbhdgfifojoaaGreatLayP
import Derived.Lib.IndexLaws
namespace Go.Proofs.YtbdbhdgfifojoaaGreat
open Go.RowKit
set_option linter.unusedVariables false

theorem indexOne_any (s : ByteArray) (w : World) :
    Calls Tryz.prog 106 #[.string s, .string ⟨#[47]⟩] w fun e w' => e = .returned (.int .i64 (Lib.indexByte s.data.toList 47)) ∧ w' = w :=
  Any.stringslite_Index_one Tryz.indexA s 47 w

theorem index_miss {l : Bs} (h : (47 : UInt8) ∉ l) : Lib.indexByte l 47 = -1 := by
  induction l with
  | nil => rfl
  | cons c l ih =>
    have h1 : ¬ c = 47 := fun e => h (by simp [e])
    have h2 : (47 : UInt8) ∉ l := fun e => h (by simp [e])
    simp [Lib.indexByte, h1, ih h2]
theorem index_hit {a : Bs} (b : Bs) (h : (47 : UInt8) ∉ a) : Lib.indexByte (a ++ 47 :: b) 47 = a.length := by
  induction a with
  | nil => simp [Lib.indexByte]
  | cons c a ih =>
    have h1 : ¬ c = 47 := fun e => h (by simp [e])
    have h2 : (47 : UInt8) ∉ a := fun e => h (by simp [e])
    have ih := ih h2
    simp only [List.cons_append, Lib.indexByte, ih]
    have : ((a.length : Int) == -1) = false := by simp
    simp [h1, this]

set_option maxRecDepth 100000 in
set_option maxHeartbeats 800000 in
theorem cutLite_miss (l : Bs) (w : World) (h : (47 : UInt8) ∉ l) :
    Calls Tryz.prog 101 #[.string (str l), .string ⟨#[47]⟩] w fun e w' => e = .returned (.tuple #[.string (str l), .string ⟨#[]⟩, .bool false]) ∧ ∃ n, w' = w.drewN n := by
  have HI := hide (index_miss h)
  go_enter Tryz.func101, Tryz.ntmps101
  go_wp2_with (go_at_call 106; refine (indexOne_any _ _).mono ?_; rintro e w' ⟨rfl, rfl⟩; rw [str_data, HI.out])
  go_ret3
  exact ⟨rfl, 0, rfl⟩
theorem cut_miss (l : Bs) (w : World) (h : (47 : UInt8) ∉ l) :
    Calls Tryz.prog 90 #[.string (str l), .string ⟨#[47]⟩] w fun e w' => e = .returned (.tuple #[.string (str l), .string ⟨#[]⟩, .bool false]) ∧ ∃ n, w' = w.drewN n := by
  go_enter Tryz.func90, Tryz.ntmps90
  go_wp2_with (go_at_call 101; refine (cutLite_miss _ _ h).mono ?_; rintro e w' ⟨rfl, n, rfl⟩)
  go_ret3
  exact ⟨rfl, n, rfl⟩
set_option maxRecDepth 100000 in
set_option maxHeartbeats 800000 in
theorem cutLite_hit (a b : Bs) (w : World) (h : (47 : UInt8) ∉ a) (hl : a.length ≤ 9223372036854775806) :
    Calls Tryz.prog 101 #[.string (str (a ++ 47 :: b)), .string ⟨#[47]⟩] w fun e w' => e = .returned (.tuple #[.string (str a), .string (str b), .bool true]) ∧ ∃ n, w' = w.drewN n := by
  have HI := hide (index_hit b h)
  have c0 : (0 : Int) ≤ a.length := by omega
  have c1 : (a.length : Int) ≤ ((str (a ++ 47 :: b)).size : Int) := by rw [str_size]; simp; omega
  have c2 : (a.length : Int) + 1 ≤ ((str (a ++ 47 :: b)).size : Int) := by rw [str_size]; simp; omega
  have HA := hide (show (str (a ++ 47 :: b)).extract 0 a.length = str a by rw [Lib.extract_eq, str_data]; simp [str])
  have HB := hide (show (str (a ++ 47 :: b)).extract (a.length + 1) (str (a ++ 47 :: b)).size = str b by rw [Lib.extract_eq, str_data, str_size, show (a ++ 47 :: b).drop (a.length + 1) = b by simp, List.take_of_length_le (by simp; omega)]; rfl)
  have hm : (a.length : Int) ≤ 9223372036854775806 := by omega
  generalize hx : str (a ++ 47 :: b) = x at *
  have HX := hide hx
  clear hx
  go_enter Tryz.func101, Tryz.ntmps101
  go_wp2_with (go_at_call 106; refine (indexOne_any _ _).mono ?_; rintro e w' ⟨rfl, rfl⟩; rw [← HX.out, str_data, HI.out, HX.out])
  go_region
  go_wp2
  go_ret3
  exact ⟨by rw [HA.out, HB.out]; rfl, 1, rfl⟩
theorem cut_hit (a b : Bs) (w : World) (h : (47 : UInt8) ∉ a) (hl : a.length ≤ 9223372036854775806) :
    Calls Tryz.prog 90 #[.string (str (a ++ 47 :: b)), .string ⟨#[47]⟩] w fun e w' => e = .returned (.tuple #[.string (str a), .string (str b), .bool true]) ∧ ∃ n, w' = w.drewN n := by
  go_enter Tryz.func90, Tryz.ntmps90
  go_wp2_with (go_at_call 101; refine (cutLite_hit _ _ _ h hl).mono ?_; rintro e w' ⟨rfl, n, rfl⟩)
  go_ret3
  exact ⟨rfl, n, rfl⟩

theorem prefix_yes {l r : Bs} (h : l = 47 :: r) : Lib.hasPrefix l [47] = true ∧ Lib.trimPrefix l [47] = r := by
  subst h
  have e : Lib.hasPrefix (47 :: r) [47] = true := by simp [Lib.hasPrefix]
  exact ⟨e, by simp [Lib.trimPrefix, e]⟩
theorem prefix_no {l : Bs} (h : ∀ r, l ≠ 47 :: r) : Lib.hasPrefix l [47] = false := by
  cases l with
  | nil => rfl
  | cons c r =>
    have hc : c ≠ 47 := fun e => h r (by rw [e])
    have : ((47 : UInt8) == c) = false := by simpa using Ne.symm hc
    simp only [Lib.hasPrefix, List.isPrefixOf, this, Bool.false_and]

theorem cutPrefix_yes (s : ByteArray) (r : Bs) (w : World) (h : s.data.toList = 47 :: r) :
    Calls Tryz.prog 67 #[.string s, .string ⟨#[47]⟩] w fun e w' => e = .returned (.tuple #[.string (str r), .bool true]) ∧ w' = w := by
  have := Any.strings_CutPrefix Tryz.prefixA s ⟨#[47]⟩ w
  have e1 := (prefix_yes h).1
  have e2 := (prefix_yes h).2
  simp only [e1, e2] at this
  exact this
theorem cutPrefix_no (s : ByteArray) (w : World) (h : ∀ r, s.data.toList ≠ 47 :: r) :
    Calls Tryz.prog 67 #[.string s, .string ⟨#[47]⟩] w fun e w' => (∃ x, e = .returned (.tuple #[.string x, .bool false])) ∧ w' = w := by
  have := Any.strings_CutPrefix Tryz.prefixA s ⟨#[47]⟩ w
  have e1 := prefix_no h
  simp only [e1] at this
  exact this.mono fun e w' ⟨h1, h2⟩ => ⟨⟨_, h1⟩, h2⟩

theorem join_tail : ∀ (r : List Bs), Lib.joinTail [47] r = joinB r
  | [] => rfl
  | n :: r => by
    have ih := join_tail r
    simp only [Lib.joinTail, List.map_cons, List.flatten_cons, List.cons_append, List.nil_append, joinB] at ih ⊢
    rw [ih]
theorem join_lib {ps : List Bs} (h : ps ≠ []) : joinB ps = 47 :: Lib.join ps [47] := by
  cases ps with
  | nil => exact absurd rfl h
  | cons n r => rw [Lib.join_cons, join_tail]; rfl
theorem join_ge : ∀ (ps : List Bs), ps.length ≤ (joinB ps).length
  | [] => by simp
  | p :: ps => by have := join_ge ps; simp [joinB]; omega
theorem map_str (ps : List Bs) : (ps.map str).map (fun x => x.data.toList) = ps := by
  rw [List.map_map]
  conv => rhs; rw [← List.map_id ps]
  apply List.map_congr_left
  intro p _
  exact str_data p


theorem clone_str (s : ByteArray) (w : World) (hl : s.size ≤ 281474976710656) :
    Calls Tryz.prog 52 #[.string s] w fun e w' => e = .returned (.string s) ∧ Below w.heap.size w w' := by
  have H := hide (fun w => Any.stringslite_Clone Tryz.cloneA s w hl)
  go_enter Tryz.func52, Tryz.ntmps52
  go_wp2_with fail
  refine (H.out _).mono ?_
  rintro e w1 ⟨rfl, hb1⟩
  go_wp2_with fail
  go_ret
  exact ⟨rfl, hb1⟩

theorem has_any (a : Option Addr) (c : Nat) (ps : List Bs) (x : ByteArray) (w : World) (h : ReadsS w a ps) (hn : ps.length ≤ 9223372036854775807) (n : Nat) (hpn : n = ps.length) :
    Calls Tryz.prog 31 #[.slice a n c, .string x] w fun e w' => e = .returned (.bool (decide (x.data.toList ∈ ps))) ∧ w' = w := by
  by_cases h0 : ps = []
  · subst h0
    subst hpn
    exact Any.slices_Contains_string_empty Tryz.hasA a c x w
  · obtain ⟨b, off, rfl, hb, hcell⟩ := h h0
    have := Any.slices_Contains_string Tryz.hasA b off n c (ps.map str) x w (by simp; omega) (by omega)
      (fun j hj => by
        have hj' : j < ps.length := by simpa using hj
        rw [hcell j hj']
        simp [List.getD_eq_getElem?_getD, hj'])
    have e : Lib.containsS ((ps.map str).take n) x = decide (x.data.toList ∈ ps) := by
      rw [List.take_of_length_le (by simp; omega), Bool.eq_iff_iff, Lib.containsS_iff]
      simp only [List.mem_map, decide_eq_true_eq]
      constructor
      · rintro ⟨p, hp, rfl⟩; rw [str_data]; exact hp
      · intro hp; exact ⟨_, hp, str_of x⟩
    rw [e] at this
    exact this

end Go.Proofs.YtbdbhdgfifojoaaGreat
