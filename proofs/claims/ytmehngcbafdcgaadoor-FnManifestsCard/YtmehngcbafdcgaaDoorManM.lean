/-
  The model's l5Manifest, l5Image and PackManifest.
-/
import Derived.Test.YtmehngcbafdcgaaDoorManL
import Derived.Test.YtmehngcbafdcgaaDoorCutG
import Derived.Test.YtmehngcbafdcgaaDoorPathS
import Derived.Test.YtmehngcbafdcgaaDoorManW
namespace Go.Proofs.YtmehngcbafdcgaaDoor
open Go.RowKit
set_option linter.unusedVariables false
set_option maxRecDepth 100000

theorem joinC_snoc (m : UInt8) (q : Bs) : ∀ {ps : List Bs}, ps ≠ [] → joinC m (ps ++ [q]) = joinC m ps ++ m :: q
  | [], h => absurd rfl h
  | [p], _ => rfl
  | p :: r :: s, _ => by
    have ih := joinC_snoc m q (ps := r :: s) (by simp)
    show p ++ m :: joinC m ((r :: s) ++ [q]) = _
    rw [ih]
    simp [joinC]
theorem wordsM_snoc (n : Bs) (ds : List Int) (d : Int) : wordsM n (ds ++ [d]) = wordsM n ds ++ [hexB d] := by simp [wordsM]

theorem l1DigestM_any (n : Int) (w : World) : Calls Tryd.prog 31 #[.int .i64 n] w fun e w' => e = .returned (.bool (isDig n)) ∧ w' = w := by
  by_cases h : 0 ≤ n ∧ n ≤ 4294967295
  · have e : isDig n = true := by simp [isDig, h]
    rw [e]; exact specl1Digest_yes n w h.1 h.2
  · have e : isDig n = false := by simp [isDig]; omega
    rw [e]; exact specl1Digest_no n w (by omega)

set_option maxHeartbeats 1600000 in
theorem l5Manifest_any (n : Bs) (ds : List Int) (x : Option Addr) (c : Nat) (w : World) (h : Reads .i64 w x ds) (hn : n.length ≤ 2097152) (hd : ds.length ≤ 1048576) :
    Calls Tryd.prog 14 #[.agg #[.string (str n), .slice x ds.length c]] w fun r w' => r = .returned (.int .i64 (manFault n ds)) ∧ Below w.heap.size w w' := by
  have HR := hide (h.below (below_alloc w (.cells #[.string (str n), .slice x ds.length c] 27)))
  have HN := hide (below_alloc w (.cells #[.string (str n), .slice x ds.length c] 27))
  obtain ⟨⟨m0, m1⟩, m2, m3⟩ := Box.new w (.string (str n)) (.slice x ds.length c) 27
  have hsz : (str n).size ≤ 9223372036854775807 := by rw [str_size]; omega
  have hsn : ((str n).size : Int) = (n.length : Int) := by rw [str_size]
  clear h
  cases hp : plain n with
  | false =>
    have HE := hide (manFault_name (ds := ds) hp)
    have HP := hide hp
    clear hp
    go_enter Tryd.func14, Tryd.ntmps14
    go_wp2_with fail
    refine (l3Plain_any (str n) _ hsz).mono ?_
    rintro r w1 ⟨rfl, rfl⟩
    rw [str_data, HP.out]
    go_wp2_with fail
    go_ret
    exact ⟨ret_int HE.out.symm, HN.out⟩
  | true =>
    have HP := hide hp
    by_cases h4 : 4 < n.length
    · have HE := hide (manFault_many (ds := ds) hp (.inl h4))
      have g4 : (4 : Int) < ((str n).size : Int) := by omega
      clear hp
      go_enter Tryd.func14, Tryd.ntmps14
      go_wp2_with fail
      refine (l3Plain_any (str n) _ hsz).mono ?_
      rintro r w1 ⟨rfl, rfl⟩
      rw [str_data, HP.out]
      go_wp2_with fail
      go_ret
      exact ⟨ret_int HE.out.symm, HN.out⟩
    · have g4 : ¬ (4 : Int) < ((str n).size : Int) := by omega
      by_cases h1 : ds.length < 1
      · have HE := hide (manFault_many (ds := ds) hp (.inr (.inl h1)))
        have g1 : ((ds.length : Nat) : Int) < 1 := by omega
        clear hp
        go_enter Tryd.func14, Tryd.ntmps14
        go_wp2_with fail
        refine (l3Plain_any (str n) _ hsz).mono ?_
        rintro r w1 ⟨rfl, rfl⟩
        rw [str_data, HP.out]
        go_wp2_with fail
        go_ret
        exact ⟨ret_int HE.out.symm, HN.out⟩
      · have g1 : ¬ ((ds.length : Nat) : Int) < 1 := by omega
        by_cases h3 : 3 < ds.length
        · have HE := hide (manFault_many (ds := ds) hp (.inr (.inr h3)))
          have g3 : (3 : Int) < ((ds.length : Nat) : Int) := by omega
          clear hp
          go_enter Tryd.func14, Tryd.ntmps14
          go_wp2_with fail
          refine (l3Plain_any (str n) _ hsz).mono ?_
          rintro r w1 ⟨rfl, rfl⟩
          rw [str_data, HP.out]
          go_wp2_with fail
          go_ret
          exact ⟨ret_int HE.out.symm, HN.out⟩
        · have g3 : ¬ (3 : Int) < ((ds.length : Nat) : Int) := by omega
          have HE := hide (manFault_digs (ds := ds) hp (by omega))
          clear hp
          go_enter Tryd.func14, Tryd.ntmps14
          go_wp2_with fail
          refine (l3Plain_any (str n) _ hsz).mono ?_
          rintro r w1 ⟨rfl, rfl⟩
          rw [str_data, HP.out]
          go_wp2_with fail
          generalize w.alloc (.cells #[.string (str n), .slice x ds.length c] 27) = W at *
          go_loop [3] (fun i => ∃ k : Nat, k ≤ ds.length ∧ i = .int .i64 k ∧ Hid ((ds.take k).all isDig = true)) (fun i => ds.length - (intOf i).toNat)
          case atStart => exact ⟨0, Nat.zero_le _, rfl, hide (by simp)⟩
          case round =>
            obtain ⟨k, hk, rfl, HA⟩ := hrel
            by_cases hlt : k < ds.length
            · obtain ⟨b, off, rfl, hb1, hcc⟩ := HR.out (by intro e; simp [e] at hlt)
              have hc1 := hcc k hlt
              have hzk : ds[k]? = some (ds.getD k 0) := by rw [List.getD_eq_getElem?_getD, List.getElem?_eq_getElem hlt]; rfl
              generalize ds.getD k 0 = y at hc1 hzk
              have HZ := hide hzk
              clear hcc hzk
              cases hdg : isDig y
              · have HX := hide (show ds.all isDig = false from by rw [List.all_eq_false]; exact ⟨y, List.mem_of_getElem? HZ.out, by simp [hdg]⟩)
                have HD := hide hdg
                clear hdg
                go_wp2_with fail
                refine (l1DigestM_any _ _).mono ?_
                rintro r w'' ⟨rfl, rfl⟩
                rw [HD.out]
                go_wp2_with fail
                go_ret
                exact ⟨ret_int (by rw [HE.out, HX.out]; rfl), HN.out⟩
              · have HX := hide (show (ds.take (k + 1)).all isDig = true from by rw [take_snoc_at HZ.out]; simp [HA.out, hdg])
                have HD := hide hdg
                clear hdg
                go_wp2_with fail
                refine (l1DigestM_any _ _).mono ?_
                rintro r w'' ⟨rfl, rfl⟩
                rw [HD.out]
                go_wp2_with fail
                go_round
                case rel => exact ⟨k + 1, by omega, by go_num, HX⟩
                case measure => simp [intOf]; omega
            · have HX := hide (show ds.all isDig = true from by have := HA.out; rwa [List.take_of_length_le (by omega)] at this)
              go_wp2_with fail
              go_ret
              exact ⟨ret_int (by rw [HE.out, HX.out]; rfl), HN.out⟩

set_option maxHeartbeats 1600000 in
theorem l5Image_any (n : Bs) (ds : List Int) (x : Option Addr) (c : Nat) (w : World) (h : Reads .i64 w x ds) (hn : n.length ≤ 2097152) (hd : ds.length ≤ 1048576) (hall : ∀ z ∈ ds, 0 ≤ z ∧ z ≤ 4294967295) :
    Calls Tryd.prog 16 #[.agg #[.string (str n), .slice x ds.length c]] w fun r w' => r = .returned (.string (str (imageB n ds))) ∧ Below w.heap.size w w' := by
  have HR := hide (h.below (below_alloc w (.cells #[.string (str n), .slice x ds.length c] 27)))
  have HN := hide (below_alloc w (.cells #[.string (str n), .slice x ds.length c] 27))
  have M0 := hide (Box.new w (.string (str n)) (.slice x ds.length c) 27)
  have HALL := hide hall
  clear h hall
  obtain ⟨⟨m0, m1⟩, m2, m3⟩ := M0.out
  have hsn : (str n).size = n.length := str_size n
  have hz0 : ¬ 9223372036854775807 < 6 + (str n).size := by omega
  have HS0 := hide (show (⟨#[105, 109, 97, 103, 101, 32]⟩ : ByteArray) ++ str n = str (joinC 32 (wordsM n [])) from str_append [105, 109, 97, 103, 101, 32] n)
  go_enter Tryd.func16, Tryd.ntmps16
  go_wp2_with fail
  rw [HS0.out]
  generalize w.alloc (.cells #[.string (str n), .slice x ds.length c] 27) = W at *
  clear m0 m1 m2 m3
  go_loopw [3, 4] (fun o i wr => ∃ k : Nat, k ≤ ds.length ∧ i = .int .i64 k ∧ o = .string (str (joinC 32 (wordsM n (ds.take k)))) ∧ Hid (Below W.heap.size W wr)) (fun _ i _ => ds.length - (intOf i).toNat)
  case atStart => exact ⟨0, Nat.zero_le _, rfl, by simp, hide (Below.refl _ _)⟩
  case round =>
    obtain ⟨k, hk, rfl, rfl, HB⟩ := hrel
    obtain ⟨⟨m0, m1⟩, m2, m3⟩ := M0.out.below HB.out
    have hb1 := joinC_bound (m := 32) (K := 2097152) (wordsM n (ds.take k)) (fun p hp => by
      simp only [wordsM, List.mem_cons, List.mem_map] at hp
      rcases hp with rfl | rfl | ⟨z, -, rfl⟩
      · decide
      · exact hn
      · rw [hexB_length]; decide)
    have hb2 : (wordsM n (ds.take k)).length = 2 + k := by simp [wordsM]; omega
    rw [hb2] at hb1
    by_cases hlt : k < ds.length
    · obtain ⟨b, off, rfl, hb3, hcc⟩ := (HR.out.below HB.out) (by intro e; simp [e] at hlt)
      have hc1 := hcc k hlt
      have hzk : ds[k]? = some (ds.getD k 0) := by rw [List.getD_eq_getElem?_getD, List.getElem?_eq_getElem hlt]; rfl
      generalize ds.getD k 0 = y at hc1 hzk
      have HZ := hide hzk
      have HY := hide (HALL.out y (List.mem_of_getElem? hzk))
      clear hcc hzk
      have HSN := hide (show str (joinC 32 (wordsM n (ds.take k))) ++ (⟨#[32]⟩ : ByteArray) ++ hexText y = str (joinC 32 (wordsM n (ds.take (k + 1)))) by
        rw [take_snoc_at HZ.out, wordsM_snoc, joinC_snoc 32 _ (by simp [wordsM]), ← str_hexB y]
        have e : (⟨#[32]⟩ : ByteArray) = str [32] := rfl
        rw [e, str_append, str_append]
        simp)
      have hh8 := hexText_size y
      have hss := str_size (joinC 32 (wordsM n (ds.take k)))
      generalize str (joinC 32 (wordsM n (ds.take k))) = S at *
      have hz1 : ¬ 9223372036854775807 < S.size + 1 := by omega
      have hz2 : ¬ 9223372036854775807 < S.size + 1 + (hexText y).size := by omega
      clear hb1 hb2 hss
      go_wp2_with fail
      refine (specl1Hex_any y _ HY.out.1 HY.out.2).mono ?_
      rintro r w1 ⟨rfl, hbw⟩
      have HB1 := hide (below_next HB.out hbw)
      clear hbw
      go_wp2_with fail
      rw [HSN.out]
      go_roundw
      case rel => exact ⟨k + 1, by omega, by go_num, rfl, HB1⟩
      case measure => simp [intOf]; omega
    · have hk' : k = ds.length := by omega
      subst hk'
      have hss := str_size (joinC 32 (wordsM n (ds.take ds.length)))
      have hz1 : ¬ 9223372036854775807 < (str (joinC 32 (wordsM n (ds.take ds.length)))).size + 1 := by omega
      have HSE := hide (show str (joinC 32 (wordsM n (ds.take ds.length))) ++ (⟨#[10]⟩ : ByteArray) = str (imageB n ds) by rw [List.take_length]; exact str_append _ [10])
      generalize str (joinC 32 (wordsM n (ds.take ds.length))) = S at *
      clear hb1 hb2 hss
      go_wp2_with fail
      go_ret
      exact ⟨ret_str HSE.out, below_next HN.out HB.out⟩

set_option maxHeartbeats 1600000 in
theorem specPackManifest_any (n : Bs) (ds : List Int) (x : Option Addr) (c : Nat) (w : World) (h : Reads .i64 w x ds) (hn : n.length ≤ 2097152) (hd : ds.length ≤ 1048576) :
    Calls Tryd.prog 10 #[.agg #[.string (str n), .slice x ds.length c]] w fun r w' => r = .returned (.agg #[.int .i64 (manFault n ds), .string (str (packText n ds))]) ∧ Below w.heap.size w w' := by
  have M0 := hide (Box.new w (.string (str n)) (.slice x ds.length c) 27)
  have B0 := hide (below_alloc w (.cells #[.string (str n), .slice x ds.length c] 27))
  have R0 := hide (h.below B0.out)
  clear h
  have X0 := hide (Box.new (w.alloc (.cells #[.string (str n), .slice x ds.length c] 27)) (.int .i64 0) (.string ⟨#[]⟩) 32)
  have B1 := hide (below_next B0.out (below_alloc (w.alloc (.cells #[.string (str n), .slice x ds.length c] 27)) (.cells #[.int .i64 0, .string ⟨#[]⟩] 32)))
  have M1 := hide (M0.out.below (below_alloc _ (.cells #[.int .i64 0, .string ⟨#[]⟩] 32)))
  have R1 := hide (R0.out.below (below_alloc _ (.cells #[.int .i64 0, .string ⟨#[]⟩] 32)))
  have hs0 : (w.alloc (.cells #[.string (str n), .slice x ds.length c] 27)).heap.size = w.heap.size + 1 := by simp
  rw [hs0] at X0
  obtain ⟨⟨m0, m1⟩, m2, m3⟩ := M0.out
  go_enter Tryd.func10, Tryd.ntmps10
  go_wp2_with fail
  generalize (w.alloc (.cells #[.string (str n), .slice x ds.length c] 27)).alloc (.cells #[.int .i64 0, .string ⟨#[]⟩] 32) = W1 at *
  clear M0 B0 R0 m0 m1 m2 m3 hs0
  refine (l5Manifest_any n ds x c W1 R1.out hn hd).mono ?_
  rintro r w2 ⟨rfl, hb2⟩
  have X2 := hide (X0.out.below hb2)
  have M2 := hide (M1.out.below hb2)
  have R2 := hide (R1.out.below hb2)
  have B2 := hide (below_next B1.out hb2)
  clear hb2 X0 M1 R1 B1
  by_cases hf : manFault n ds = 0
  · have HF := hide (manFault_fit.1 hf)
    have HP := hide (packText_good hf)
    have HMF := hide hf
    rw [hf]
    clear hf
    obtain ⟨⟨q0, q1⟩, q2, q3⟩ := M2.out
    go_wp2_with fail
    refine (l5Image_any n ds x c w2 R2.out hn hd HF.out.digs).mono ?_
    rintro r w3 ⟨rfl, hb3⟩
    obtain ⟨⟨t0, t1⟩, t2, t3⟩ := X2.out.below hb3
    have B3 := hide (below_next B2.out hb3)
    clear hb3 q0 q1 q2 q3
    go_wp2_with fail
    exact bodyPost_ret (v := .agg #[.int .i64 0, .string (str (imageB n ds))]) (by simp [results, Tryd.results10, go_sem, t0, t1]) rfl ⟨by rw [HMF.out, HP.out], (B3.out.setCell (p := ⟨w.heap.size + 1, 0, none⟩) (Nat.le_succ _) _).setCell (p := ⟨w.heap.size + 1, 1, none⟩) (Nat.le_succ _) _⟩
  · have HP := hide (packText_bad hf)
    have hne : (manFault n ds != 0) = true := by simp; exact hf
    obtain ⟨⟨t0, t1⟩, t2, t3⟩ := X2.out
    go_wp2_with fail
    exact bodyPost_ret (v := .agg #[.int .i64 (manFault n ds), .string ⟨#[]⟩]) (by simp [results, Tryd.results10, go_sem, t0, t1]) rfl ⟨by rw [HP.out]; rfl, (B2.out.setCell (p := ⟨w.heap.size + 1, 0, none⟩) (Nat.le_succ _) _).setCell (p := ⟨w.heap.size + 1, 1, none⟩) (Nat.le_succ _) _⟩
end Go.Proofs.YtmehngcbafdcgaaDoor
