/-
  Contracts of the library's functions that paths call: strings.Cut and strings.CutPrefix at a stroke, strings.Join with strokes, strings.Clone, slices.Contains.
-/
import Derived.Test.YtcnoabkpilmanaaPathS
import Derived.Test.YtcnoabkpilmanaaLayP
import Derived.Lib.IndexLaws
namespace Go.Proofs.Ytcnoabkpilmanaa
open Go.RowKit
set_option linter.unusedVariables false

theorem indexOne_any (s : ByteArray) (w : World) :
    Calls Try.prog 59 #[.string s, .string ⟨#[47]⟩] w fun e w' => e = .returned (.int .i64 (Lib.indexByte s.data.toList 47)) ∧ w' = w :=
  Any.stringslite_Index_one Try.indexA s 47 w

theorem index_miss {l : Bs} (h : (47 : UInt8) ∉ l) : Lib.indexByte l 47 = -1 := by
  induction l with
  | nil => rfl
  | cons c l ih =>
    have h1 : ¬ c = 47 := fun e => h (by simp [e])
    have h2 : (47 : UInt8) ∉ l := fun e => h (by simp [e])
    simp [Lib.indexByte, h1, ih h2]
theorem index_hit {a : Bs} (b : Bs) (h : (47 : UInt8) ∉ a) : Lib.indexByte (a ++ 47 :: b) 47 = a.length := by
  induction a with
  | nil => simp [Lib.indexByte]
  | cons c a ih =>
    have h1 : ¬ c = 47 := fun e => h (by simp [e])
    have h2 : (47 : UInt8) ∉ a := fun e => h (by simp [e])
    have ih := ih h2
    simp only [List.cons_append, Lib.indexByte, ih]
    have : ((a.length : Int) == -1) = false := by simp
    simp [h1, this]

set_option maxRecDepth 100000 in
set_option maxHeartbeats 800000 in
theorem cutLite_miss (l : Bs) (w : World) (h : (47 : UInt8) ∉ l) :
    Calls Try.prog 57 #[.string (str l), .string ⟨#[47]⟩] w fun e w' => e = .returned (.tuple #[.string (str l), .string ⟨#[]⟩, .bool false]) ∧ ∃ n, w' = w.drewN n := by
  have HI := hide (index_miss h)
  go_enter Try.func57, Try.ntmps57
  go_wp2_with (go_at_call 59; refine (indexOne_any _ _).mono ?_; rintro e w' ⟨rfl, rfl⟩; rw [str_data, HI.out])
  go_ret3
  exact ⟨rfl, 0, rfl⟩
theorem cut_miss (l : Bs) (w : World) (h : (47 : UInt8) ∉ l) :
    Calls Try.prog 50 #[.string (str l), .string ⟨#[47]⟩] w fun e w' => e = .returned (.tuple #[.string (str l), .string ⟨#[]⟩, .bool false]) ∧ ∃ n, w' = w.drewN n := by
  go_enter Try.func50, Try.ntmps50
  go_wp2_with (go_at_call 57; refine (cutLite_miss _ _ h).mono ?_; rintro e w' ⟨rfl, n, rfl⟩)
  go_ret3
  exact ⟨rfl, n, rfl⟩
set_option maxRecDepth 100000 in
set_option maxHeartbeats 800000 in
theorem cutLite_hit (a b : Bs) (w : World) (h : (47 : UInt8) ∉ a) (hl : a.length ≤ 9223372036854775806) :
    Calls Try.prog 57 #[.string (str (a ++ 47 :: b)), .string ⟨#[47]⟩] w fun e w' => e = .returned (.tuple #[.string (str a), .string (str b), .bool true]) ∧ ∃ n, w' = w.drewN n := by
  have HI := hide (index_hit b h)
  have c0 : (0 : Int) ≤ a.length := by omega
  have c1 : (a.length : Int) ≤ ((str (a ++ 47 :: b)).size : Int) := by rw [str_size]; simp; omega
  have c2 : (a.length : Int) + 1 ≤ ((str (a ++ 47 :: b)).size : Int) := by rw [str_size]; simp; omega
  have HA := hide (show (str (a ++ 47 :: b)).extract 0 a.length = str a by rw [Lib.extract_eq, str_data]; simp [str])
  have HB := hide (show (str (a ++ 47 :: b)).extract (a.length + 1) (str (a ++ 47 :: b)).size = str b by rw [Lib.extract_eq, str_data, str_size, show (a ++ 47 :: b).drop (a.length + 1) = b by simp, List.take_of_length_le (by simp; omega)]; rfl)
  have hm : (a.length : Int) ≤ 9223372036854775806 := by omega
  generalize hx : str (a ++ 47 :: b) = x at *
  have HX := hide hx
  clear hx
  go_enter Try.func57, Try.ntmps57
  go_wp2_with (go_at_call 59; refine (indexOne_any _ _).mono ?_; rintro e w' ⟨rfl, rfl⟩; rw [← HX.out, str_data, HI.out, HX.out])
  go_region
  go_wp2
  go_ret3
  exact ⟨by rw [HA.out, HB.out]; rfl, 1, rfl⟩
theorem cut_hit (a b : Bs) (w : World) (h : (47 : UInt8) ∉ a) (hl : a.length ≤ 9223372036854775806) :
    Calls Try.prog 50 #[.string (str (a ++ 47 :: b)), .string ⟨#[47]⟩] w fun e w' => e = .returned (.tuple #[.string (str a), .string (str b), .bool true]) ∧ ∃ n, w' = w.drewN n := by
  go_enter Try.func50, Try.ntmps50
  go_wp2_with (go_at_call 57; refine (cutLite_hit _ _ _ h hl).mono ?_; rintro e w' ⟨rfl, n, rfl⟩)
  go_ret3
  exact ⟨rfl, n, rfl⟩

theorem prefix_yes {l r : Bs} (h : l = 47 :: r) : Lib.hasPrefix l [47] = true ∧ Lib.trimPrefix l [47] = r := by
  subst h
  have e : Lib.hasPrefix (47 :: r) [47] = true := by simp [Lib.hasPrefix]
  exact ⟨e, by simp [Lib.trimPrefix, e]⟩
theorem prefix_no {l : Bs} (h : ∀ r, l ≠ 47 :: r) : Lib.hasPrefix l [47] = false := by
  cases l with
  | nil => rfl
  | cons c r =>
    have hc : c ≠ 47 := fun e => h r (by rw [e])
    have : ((47 : UInt8) == c) = false := by simpa using Ne.symm hc
    simp only [Lib.hasPrefix, List.isPrefixOf, this, Bool.false_and]

theorem cutPrefix_yes (s : ByteArray) (r : Bs) (w : World) (h : s.data.toList = 47 :: r) :
    Calls Try.prog 41 #[.string s, .string ⟨#[47]⟩] w fun e w' => e = .returned (.tuple #[.string (str r), .bool true]) ∧ w' = w := by
  have := Any.strings_CutPrefix Try.prefixA s ⟨#[47]⟩ w
  have e1 := (prefix_yes h).1
  have e2 := (prefix_yes h).2
  simp only [e1, e2] at this
  exact this
theorem cutPrefix_no (s : ByteArray) (w : World) (h : ∀ r, s.data.toList ≠ 47 :: r) :
    Calls Try.prog 41 #[.string s, .string ⟨#[47]⟩] w fun e w' => (∃ x, e = .returned (.tuple #[.string x, .bool false])) ∧ w' = w := by
  have := Any.strings_CutPrefix Try.prefixA s ⟨#[47]⟩ w
  have e1 := prefix_no h
  simp only [e1] at this
  exact this.mono fun e w' ⟨h1, h2⟩ => ⟨⟨_, h1⟩, h2⟩

theorem join_tail : ∀ (r : List Bs), Lib.joinTail [47] r = joinB r
  | [] => rfl
  | n :: r => by
    have ih := join_tail r
    simp only [Lib.joinTail, List.map_cons, List.flatten_cons, List.cons_append, List.nil_append, joinB] at ih ⊢
    rw [ih]
theorem join_lib {ps : List Bs} (h : ps ≠ []) : joinB ps = 47 :: Lib.join ps [47] := by
  cases ps with
  | nil => exact absurd rfl h
  | cons n r => rw [Lib.join_cons, join_tail]; rfl
theorem join_ge : ∀ (ps : List Bs), ps.length ≤ (joinB ps).length
  | [] => by simp
  | p :: ps => by have := join_ge ps; simp [joinB]; omega
theorem map_str (ps : List Bs) : (ps.map str).map (fun x => x.data.toList) = ps := by
  rw [List.map_map]
  conv => rhs; rw [← List.map_id ps]
  apply List.map_congr_left
  intro p _
  exact str_data p




end Go.Proofs.Ytcnoabkpilmanaa
