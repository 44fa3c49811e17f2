/-
  The model's l5Manifest, l5Image and PackManifest.
-/
import Derived.Test.YtokcibegjhfofalDoorManL
import Derived.Test.YtokcibegjhfofalDoorCutG
import Derived.Test.YtokcibegjhfofalDoorPathS
import Derived.Test.YtokcibegjhfofalDoorManW
namespace Go.Proofs.YtokcibegjhfofalDoor
open Go.RowKit
set_option linter.unusedVariables false
set_option maxRecDepth 100000

theorem joinC_snoc (m : UInt8) (q : Bs) : ∀ {ps : List Bs}, ps ≠ [] → joinC m (ps ++ [q]) = joinC m ps ++ m :: q
  | [], h => absurd rfl h
  | [p], _ => rfl
  | p :: r :: s, _ => by
    have ih := joinC_snoc m q (ps := r :: s) (by simp)
    show p ++ m :: joinC m ((r :: s) ++ [q]) = _
    rw [ih]
    simp [joinC]
theorem wordsM_snoc (n : Bs) (ds : List Int) (d : Int) : wordsM n (ds ++ [d]) = wordsM n ds ++ [hexB d] := by simp [wordsM]

theorem l1DigestM_any (n : Int) (w : World) : Calls Tryd.prog 20 #[.int .i64 n] w fun e w' => e = .returned (.bool (isDig n)) ∧ w' = w := by
  by_cases h : 0 ≤ n ∧ n ≤ 4294967295
  · have e : isDig n = true := by simp [isDig, h]
    rw [e]; exact specl1Digest_yes n w h.1 h.2
  · have e : isDig n = false := by simp [isDig]; omega
    rw [e]; exact specl1Digest_no n w (by omega)

set_option maxHeartbeats 1600000 in
theorem l5Manifest_any (n : Bs) (ds : List Int) (x : Option Addr) (c : Nat) (w : World) (h : Reads .i64 w x ds) (hn : n.length ≤ 2097152) (hd : ds.length ≤ 1048576) :
    Calls Tryd.prog 11 #[.agg #[.string (str n), .slice x ds.length c]] w fun r w' => r = .returned (.int .i64 (manFault n ds)) ∧ Below w.heap.size w w' := by
  have HR := hide (h.below (below_alloc w (.cells #[.string (str n), .slice x ds.length c] 24)))
  have HN := hide (below_alloc w (.cells #[.string (str n), .slice x ds.length c] 24))
  obtain ⟨⟨m0, m1⟩, m2, m3⟩ := Box.new w (.string (str n)) (.slice x ds.length c) 24
  have hsz : (str n).size ≤ 9223372036854775807 := by rw [str_size]; omega
  have hsn : ((str n).size : Int) = (n.length : Int) := by rw [str_size]
  clear h
  cases hp : plain n with
  | false =>
    have HE := hide (manFault_name (ds := ds) hp)
    have HP := hide hp
    clear hp
    go_enter Tryd.func11, Tryd.ntmps11
    go_wp2_with fail
    refine (l3Plain_any (str n) _ hsz).mono ?_
    rintro r w1 ⟨rfl, rfl⟩
    rw [str_data, HP.out]
    go_wp2_with fail
    go_ret
    exact ⟨ret_int HE.out.symm, HN.out⟩
  | true =>
    have HP := hide hp
    by_cases h4 : 4 < n.length
    · have HE := hide (manFault_many (ds := ds) hp (.inl h4))
      have g4 : (4 : Int) < ((str n).size : Int) := by omega
      clear hp
      go_enter Tryd.func11, Tryd.ntmps11
      go_wp2_with fail
      refine (l3Plain_any (str n) _ hsz).mono ?_
      rintro r w1 ⟨rfl, rfl⟩
      rw [str_data, HP.out]
      go_wp2_with fail
      go_ret
      exact ⟨ret_int HE.out.symm, HN.out⟩
    · have g4 : ¬ (4 : Int) < ((str n).size : Int) := by omega
      by_cases h1 : ds.length < 1
      · have HE := hide (manFault_many (ds := ds) hp (.inr (.inl h1)))
        have g1 : ((ds.length : Nat) : Int) < 1 := by omega
        clear hp
        go_enter Tryd.func11, Tryd.ntmps11
        go_wp2_with fail
        refine (l3Plain_any (str n) _ hsz).mono ?_
        rintro r w1 ⟨rfl, rfl⟩
        rw [str_data, HP.out]
        go_wp2_with fail
        go_ret
        exact ⟨ret_int HE.out.symm, HN.out⟩
      · have g1 : ¬ ((ds.length : Nat) : Int) < 1 := by omega
        by_cases h3 : 3 < ds.length
        · have HE := hide (manFault_many (ds := ds) hp (.inr (.inr h3)))
          have g3 : (3 : Int) < ((ds.length : Nat) : Int) := by omega
          clear hp
          go_enter Tryd.func11, Tryd.ntmps11
          go_wp2_with fail
          refine (l3Plain_any (str n) _ hsz).mono ?_
          rintro r w1 ⟨rfl, rfl⟩
          rw [str_data, HP.out]
          go_wp2_with fail
          go_ret
          exact ⟨ret_int HE.out.symm, HN.out⟩
        · have g3 : ¬ (3 : Int) < ((ds.length : Nat) : Int) := by omega
          have HE := hide (manFault_digs (ds := ds) hp (by omega))
          clear hp
          go_enter Tryd.func11, Tryd.ntmps11
          go_wp2_with fail
          refine (l3Plain_any (str n) _ hsz).mono ?_
          rintro r w1 ⟨rfl, rfl⟩
          rw [str_data, HP.out]
          go_wp2_with fail
          generalize w.alloc (.cells #[.string (str n), .slice x ds.length c] 24) = W at *
          go_loop [3] (fun i => ∃ k : Nat, k ≤ ds.length ∧ i = .int .i64 k ∧ Hid ((ds.take k).all isDig = true)) (fun i => ds.length - (intOf i).toNat)
          case atStart => exact ⟨0, Nat.zero_le _, rfl, hide (by simp)⟩
          case round =>
            obtain ⟨k, hk, rfl, HA⟩ := hrel
            by_cases hlt : k < ds.length
            · obtain ⟨b, off, rfl, hb1, hcc⟩ := HR.out (by intro e; simp [e] at hlt)
              have hc1 := hcc k hlt
              have hzk : ds[k]? = some (ds.getD k 0) := by rw [List.getD_eq_getElem?_getD, List.getElem?_eq_getElem hlt]; rfl
              generalize ds.getD k 0 = y at hc1 hzk
              have HZ := hide hzk
              clear hcc hzk
              cases hdg : isDig y
              · have HX := hide (show ds.all isDig = false from by rw [List.all_eq_false]; exact ⟨y, List.mem_of_getElem? HZ.out, by simp [hdg]⟩)
                have HD := hide hdg
                clear hdg
                go_wp2_with fail
                refine (l1DigestM_any _ _).mono ?_
                rintro r w'' ⟨rfl, rfl⟩
                rw [HD.out]
                go_wp2_with fail
                go_ret
                exact ⟨ret_int (by rw [HE.out, HX.out]; rfl), HN.out⟩
              · have HX := hide (show (ds.take (k + 1)).all isDig = true from by rw [take_snoc_at HZ.out]; simp [HA.out, hdg])
                have HD := hide hdg
                clear hdg
                go_wp2_with fail
                refine (l1DigestM_any _ _).mono ?_
                rintro r w'' ⟨rfl, rfl⟩
                rw [HD.out]
                go_wp2_with fail
                go_round
                case rel => exact ⟨k + 1, by omega, by go_num, HX⟩
                case measure => simp [intOf]; omega
            · have HX := hide (show ds.all isDig = true from by have := HA.out; rwa [List.take_of_length_le (by omega)] at this)
              go_wp2_with fail
              go_ret
              exact ⟨ret_int (by rw [HE.out, HX.out]; rfl), HN.out⟩


end Go.Proofs.YtokcibegjhfofalDoor
