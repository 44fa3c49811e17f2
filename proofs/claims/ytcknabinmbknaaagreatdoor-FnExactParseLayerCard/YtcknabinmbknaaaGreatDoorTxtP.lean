/-
  The program's chunksText and EntryText.
-/
import Derived.Test.YtcknabinmbknaaaGreatDoorJ2
import Derived.Test.YtcknabinmbknaaaGreatDoorJ1
import Derived.Test.YtcknabinmbknaaaGreatDoorLayN
import Derived.Test.YtcknabinmbknaaaGreatDoorTxtW
import Derived.Deep.RegionHeld3
namespace Go.Proofs.YtcknabinmbknaaaGreatDoor
open Go.RowKit
set_option linter.unusedVariables false
set_option maxRecDepth 100000

theorem dec_digB : ∀ k : Fin 25, Lib.decDigits k.val = digB (k.val : Int) := by decide +kernel

theorem formatInt_any (n : Int) (w : World) (h0 : 0 ≤ n) (h1 : n ≤ 24) : Calls Tryz.prog 38 #[.int .i64 n, .int .i64 10] w fun r w' => r = .returned (.string (str (digB n))) ∧ w' = w := by
  have := Any.strconv_FormatInt_10_small Tryz.fmtA n.toNat (by omega) w
  have e : ((n.toNat : Nat) : Int) = n := by omega
  have e2 := dec_digB ⟨n.toNat, by omega⟩
  simp only at e2
  rw [e] at this e2
  rw [e2] at this
  exact this

set_option maxHeartbeats 800000 in
theorem chunksText_any (cs : List Int) (x : Option Addr) (c : Nat) (w : World) (h : Reads .i64 w x cs) (hd : cs.length ≤ 3) (hall : ∀ z ∈ cs, 0 ≤ z ∧ z ≤ 4294967295) :
    Calls Tryz.prog 39 #[.slice x cs.length c] w fun r w' => r = .returned (.string (str (hexesB cs))) ∧ Below w.heap.size w w' := by
  have HR := hide h
  have HALL := hide hall
  clear h hall
  by_cases h0 : cs = []
  · subst h0
    go_enter Tryz.func39, Tryz.ntmps39
    go_wp2_with fail
    go_ret
    exact ⟨rfl, Below.refl _ _⟩
  · have hpos : 0 < cs.length := List.length_pos_iff.2 h0
    have hne : ((cs.length : Int) == 0) = false := by simp; omega
    have HE := hide (show hexesB cs = joinC 44 (cs.map hexB) by simp [hexesB, h0])
    have H0 := hide h0
    clear h0
    go_enter Tryz.func39, Tryz.ntmps39
    go_wp2_with fail
    refine (hexTexts_any cs x c w HR.out (by omega) HALL.out).mono ?_
    rintro r w1 ⟨av, cv, rfl, hO, hb1⟩
    have O1 := hide hO
    have B1 := hide hb1
    have hcap := hO.cap (by simp)
    clear hO hb1
    have hbd := joinC_bound (m := 44) (K := 8) (cs.map hexB) (fun p hp => by obtain ⟨z, -, rfl⟩ := List.mem_map.1 hp; exact Nat.le_of_eq (hexB_length z))
    rw [List.length_map] at hbd
    go_wp2_with fail
    refine (joinMark_any 44 av cv cs.length (cs.map hexB) _ O1.out.reads (by simpa using H0.out) (by simp) hcap (by simp; omega) (by omega)).mono ?_
    rintro r w2 ⟨rfl, hb2⟩
    have B2 := hide (below_next B1.out hb2)
    clear hb2
    go_wp2_with fail
    go_ret
    exact ⟨ret_str (by rw [HE.out]), B2.out⟩


theorem news_two (w : World) (a b : Value) (t : TypeId) : ∀ j u, [a, b][j]? = some u → (w.alloc (.cells #[a, b] t)).cell? ((⟨w.heap.size, 0, none⟩ : Addr).add j) = some u := by
  intro j u hj
  rw [addr_add]
  match j, hj with
  | 0, hj => simp at hj; subst hj; simp
  | 1, hj => simp at hj; subst hj; simp
theorem reads_two (w : World) (p q : Bs) : ReadsS (w.alloc (.cells #[.string (str p), .string (str q)] 9)) (some ⟨w.heap.size, 0, none⟩) [p, q] := by
  intro _
  refine ⟨w.heap.size, 0, rfl, by simp, fun i hi => ?_⟩
  match i, hi with
  | 0, _ => simp
  | 1, _ => simp

set_option maxHeartbeats 3200000 in
theorem implEntryText_any (e : En) (x : Option Addr) (c : Nat) (w : World) (h : Reads .i64 w x e.chunks) (hp : e.path.length ≤ 1048576) (hc : e.chunks.length ≤ 1048576) :
    Calls Tryz.prog 14 #[.agg #[.string (str e.path), .int .i64 e.kind, .int .i64 e.size, .slice x e.chunks.length c]] w fun r w' => r = .returned (.agg #[.int .i64 (entFault e), .string (str (entText e))]) ∧ Below w.heap.size w w' := by
  have M0 := hide (Four.new w (.string (str e.path)) (.int .i64 e.kind) (.int .i64 e.size) (.slice x e.chunks.length c) 39)
  have B0 := hide (below_alloc w (.cells #[.string (str e.path), .int .i64 e.kind, .int .i64 e.size, .slice x e.chunks.length c] 39))
  have R0 := hide (h.below B0.out)
  clear h
  have X0 := hide (Box.new (w.alloc (.cells #[.string (str e.path), .int .i64 e.kind, .int .i64 e.size, .slice x e.chunks.length c] 39)) (.int .i64 0) (.string ⟨#[]⟩) 35)
  have B1 := hide (below_next B0.out (below_alloc (w.alloc (.cells #[.string (str e.path), .int .i64 e.kind, .int .i64 e.size, .slice x e.chunks.length c] 39)) (.cells #[.int .i64 0, .string ⟨#[]⟩] 35)))
  have M1 := hide (M0.out.below (below_alloc _ (.cells #[.int .i64 0, .string ⟨#[]⟩] 35)))
  have R1 := hide (R0.out.below (below_alloc _ (.cells #[.int .i64 0, .string ⟨#[]⟩] 35)))
  have hs0 : (w.alloc (.cells #[.string (str e.path), .int .i64 e.kind, .int .i64 e.size, .slice x e.chunks.length c] 39)).heap.size = w.heap.size + 1 := by simp
  rw [hs0] at X0
  obtain ⟨m0, m1, m2, m3⟩ := M0.out
  go_enter Tryz.func14, Tryz.ntmps14
  go_wp2_with fail
  generalize (w.alloc (.cells #[.string (str e.path), .int .i64 e.kind, .int .i64 e.size, .slice x e.chunks.length c] 39)).alloc (.cells #[.int .i64 0, .string ⟨#[]⟩] 35) = W1 at *
  clear M0 B0 R0 m0 m1 m2 m3 hs0
  refine (implEntryFault_any e x c e.chunks.length W1 R1.out rfl hp hc).mono ?_
  rintro r w2 ⟨rfl, hb2⟩
  have X2 := hide (X0.out.below hb2)
  have M2 := hide (M1.out.below hb2)
  have R2 := hide (R1.out.below hb2)
  have B2 := hide (below_next B1.out hb2)
  clear hb2 X0 M1 R1 B1
  by_cases hf : entFault e = 0
  · have HF := hide (entFault_fit.1 hf)
    have HP := hide (entText_good hf)
    have HMF := hide hf
    rw [hf]
    clear hf
    have hpl := HF.out.plen
    have hk4 := HF.out.kind
    obtain ⟨q0, q1, q2, q3⟩ := M2.out
    have hks : e.kind = 1 ∨ e.kind = 2 ∨ e.kind = 3 ∨ e.kind = 4 := by omega
    rcases hks with hkk | hkk | hkk | hkk
    · have HL := hide (show (⟨#[102, 100, 119, 111]⟩ : ByteArray).extract 0 1 = str [102] by rfl)
      have HT := hide (show joinC 32 [[102], e.path, digB e.size, hexesB e.chunks] = textE e by simp [textE, hkk])
      rw [hkk] at q1
      go_wp2_with fail
      go_region
      rw [HL.out]
      have A3 := hide (below_alloc w2 (.cells #[.string (str [102]), .string (str e.path)] 9)).drew
      have OW3 : Hid ((w2.alloc (.cells #[.string (str [102]), .string (str e.path)] 9)).drew.ownsRow w2.heap.size 9 1 (.slice (some ⟨w2.heap.size, 0, none⟩) 2 2) 2 [.string (str [102]), .string (str e.path)]) := hide (own_full (base := w2.heap.size) (e := 9) (n := 2) w2 #[.string (str [102]), .string (str e.path)] (Nat.le_refl _) (by decide) rfl)
      have hW3 : w2.heap.size ≤ (w2.alloc (.cells #[.string (str [102]), .string (str e.path)] 9)).drew.heap.size := by simp
      generalize (w2.alloc (.cells #[.string (str [102]), .string (str e.path)] 9)).drew = W3 at *
      have X3 := hide (X2.out.below A3.out)
      have B3 := hide (below_next B2.out A3.out)
      have M3 := hide (M2.out.below A3.out)
      have R3 := hide (R2.out.below A3.out)
      have A3b := hide A3.out
      clear q0 q1 q2 q3 A3
      have HFI := hide (fun u => formatInt_any e.size u HF.out.size.1 HF.out.size.2)
      have HCT := hide (fun u (hu : Below W3.heap.size W3 u) => chunksText_any e.chunks x c u (R3.out.below hu) HF.out.three HF.out.digs)
      have KM : Hid (∀ u : World, Below W3.heap.size W3 u → u.cell? ⟨w.heap.size, 1, none⟩ = some (.int .i64 e.kind) ∧ u.cell? ⟨w.heap.size, 2, none⟩ = some (.int .i64 e.size) ∧ u.cell? ⟨w.heap.size, 3, none⟩ = some (.slice x e.chunks.length c)) := hide (fun u hu => (M3.out.below hu).2)
      obtain ⟨q1, q2, q3⟩ := KM.out _ (Below.refl _ _)
      rw [hkk] at q1
      have hdl := digB_len e.size
      have hhl := hexesB_len HF.out.three
      generalize digB e.size = D at *
      generalize hexesB e.chunks = E at *
      obtain ⟨i1, ki, kz0, kz1, kz2⟩ := info_parts infoS
      go_wp2_with fail
      go_region_law
        ((first
          | (have hO4 := O4; clear hO4; refine step_app (by rfl) (.tmp 23) (.tmp 30) 59 (by rfl) w2.heap.size 9 i1 (.string ⟨#[]⟩) 1 16 Tryz.underlying59 ki kz0 kz1 kz2 rfl (by decide) (.slice (some ⟨w2.heap.size, 0, none⟩) 2 2) 2 [.string (str [102]), .string (str e.path)] (by rfl) (O4.out.alloc _) ⟨w4.heap.size, 0, none⟩ 2 2 [.string (str D), .string (str E)] (by rfl) (by rfl) (news_two w4 (.string (str D)) (.string (str E)) 9) (by intro u hu; simp at hu; rcases hu with rfl | rfl <;> rfl) 4 rfl (by decide) (by decide) (by have := BB4.out.size; simp; omega) ?_; intro av5 cv5 w5 hown5 hk5; have O5 := hide hown5; have B5 := hide (Kept.below_own (below_next (below_next A3b.out BB4.out) (below_alloc w4 (.cells #[.string (str D), .string (str E)] 9))) (by have := BB4.out.size; simp; omega) (O4.out.alloc (.cells #[.string (str D), .string (str E)] 9)) hk5); clear hown5 hk5)
          | (go_simp; go_wp2_with (first | (go_at_call 38; refine (HFI.out _).mono ?_; rintro r w' ⟨rfl, hw'⟩; have hw2 := hw'.symm; clear hw'; subst hw2) | (go_at_call 39; refine (HCT.out _ (Below.refl _ _).drew).mono ?_; rintro r w4 ⟨rfl, hb4⟩; have BB4 : Hid (Below W3.heap.size W3 w4) := hide (below_next (Below.refl _ _).drew hb4); obtain ⟨q41, q42, q43⟩ := KM.out _ BB4.out; have O4 := hide (ownsRow_below OW3.out BB4.out); clear hb4)))))
      all_goals
        have OW : Hid (OwnS w2.heap.size w5 (.slice av5 4 cv5) [[102], e.path, D, E]) := hide O5.out
        have X5 := hide (X2.out.below B5.out)
        have B6 := hide (below_next B2.out B5.out)
        have hcap := OW.out.cap rfl
        clear O5 B5 O4 BB4 q41 q42 q43 q1 q2 q3
        go_wp2_with fail
        refine (joinMark_any 32 av5 cv5 4 [[102], e.path, D, E] _ OW.out.reads (by simp) rfl hcap (by simp) (by simp [joinC]; omega)).mono ?_
        rintro r w6 ⟨rfl, hb6⟩
        rw [HT.out]
        obtain ⟨⟨t0, t1⟩, t2, t3⟩ := X5.out.below hb6
        have B7 := hide (below_next B6.out hb6)
        clear hb6
        go_wp2_with fail
        exact bodyPost_ret (v := .agg #[.int .i64 0, .string (str (textE e))]) (by simp [results, Tryz.results14, go_sem, t0, t1]) rfl ⟨by rw [HMF.out, HP.out], (B7.out.setCell (p := ⟨w.heap.size + 1, 0, none⟩) (Nat.le_succ _) _).setCell (p := ⟨w.heap.size + 1, 1, none⟩) (Nat.le_succ _) _⟩
    · have HL := hide (show (⟨#[102, 100, 119, 111]⟩ : ByteArray).extract 1 2 = str [100] by rfl)
      have HT := hide (show joinC 32 [[100], e.path] = textE e by simp [textE, hkk, kindB])
      rw [hkk] at q1
      have hkb : ((2 : Int) == 1) = false := by decide
      go_wp2_with fail
      go_region
      rw [HL.out]
      have A3 := hide (below_alloc w2 (.cells #[.string (str [100]), .string (str e.path)] 9)).drew
      have RS : Hid (ReadsS (w2.alloc (.cells #[.string (str [100]), .string (str e.path)] 9)).drew (some ⟨w2.heap.size, 0, none⟩) [[100], e.path]) := hide (reads_two w2 [100] e.path)
      generalize (w2.alloc (.cells #[.string (str [100]), .string (str e.path)] 9)).drew = W3 at *
      generalize w2.heap.size = b3 at RS ⊢
      have X3 := hide (X2.out.below A3.out)
      have B3 := hide (below_next B2.out A3.out)
      have hq1 := (M2.out.below A3.out).2.1
      rw [hkk] at hq1
      clear q0 q1 q2 q3
      go_wp2_with fail
      refine (joinMark_any 32 _ 2 2 [[100], e.path] _ RS.out (by simp) rfl (Nat.le_refl _) (by simp) (by simp [joinC]; omega)).mono ?_
      rintro r w4 ⟨rfl, hb4⟩
      rw [HT.out]
      obtain ⟨⟨t0, t1⟩, t2, t3⟩ := X3.out.below hb4
      have B4 := hide (below_next B3.out hb4)
      clear hb4
      go_wp2_with fail
      exact bodyPost_ret (v := .agg #[.int .i64 0, .string (str (textE e))]) (by simp [results, Tryz.results14, go_sem, t0, t1]) rfl ⟨by rw [HMF.out, HP.out], (B4.out.setCell (p := ⟨w.heap.size + 1, 0, none⟩) (Nat.le_succ _) _).setCell (p := ⟨w.heap.size + 1, 1, none⟩) (Nat.le_succ _) _⟩
    · have HL := hide (show (⟨#[102, 100, 119, 111]⟩ : ByteArray).extract 2 3 = str [119] by rfl)
      have HT := hide (show joinC 32 [[119], e.path] = textE e by simp [textE, hkk, kindB])
      rw [hkk] at q1
      have hkb : ((3 : Int) == 1) = false := by decide
      go_wp2_with fail
      go_region
      rw [HL.out]
      have A3 := hide (below_alloc w2 (.cells #[.string (str [119]), .string (str e.path)] 9)).drew
      have RS : Hid (ReadsS (w2.alloc (.cells #[.string (str [119]), .string (str e.path)] 9)).drew (some ⟨w2.heap.size, 0, none⟩) [[119], e.path]) := hide (reads_two w2 [119] e.path)
      generalize (w2.alloc (.cells #[.string (str [119]), .string (str e.path)] 9)).drew = W3 at *
      generalize w2.heap.size = b3 at RS ⊢
      have X3 := hide (X2.out.below A3.out)
      have B3 := hide (below_next B2.out A3.out)
      have hq1 := (M2.out.below A3.out).2.1
      rw [hkk] at hq1
      clear q0 q1 q2 q3
      go_wp2_with fail
      refine (joinMark_any 32 _ 2 2 [[119], e.path] _ RS.out (by simp) rfl (Nat.le_refl _) (by simp) (by simp [joinC]; omega)).mono ?_
      rintro r w4 ⟨rfl, hb4⟩
      rw [HT.out]
      obtain ⟨⟨t0, t1⟩, t2, t3⟩ := X3.out.below hb4
      have B4 := hide (below_next B3.out hb4)
      clear hb4
      go_wp2_with fail
      exact bodyPost_ret (v := .agg #[.int .i64 0, .string (str (textE e))]) (by simp [results, Tryz.results14, go_sem, t0, t1]) rfl ⟨by rw [HMF.out, HP.out], (B4.out.setCell (p := ⟨w.heap.size + 1, 0, none⟩) (Nat.le_succ _) _).setCell (p := ⟨w.heap.size + 1, 1, none⟩) (Nat.le_succ _) _⟩
    · have HL := hide (show (⟨#[102, 100, 119, 111]⟩ : ByteArray).extract 3 4 = str [111] by rfl)
      have HT := hide (show joinC 32 [[111], e.path] = textE e by simp [textE, hkk, kindB])
      rw [hkk] at q1
      have hkb : ((4 : Int) == 1) = false := by decide
      go_wp2_with fail
      go_region
      rw [HL.out]
      have A3 := hide (below_alloc w2 (.cells #[.string (str [111]), .string (str e.path)] 9)).drew
      have RS : Hid (ReadsS (w2.alloc (.cells #[.string (str [111]), .string (str e.path)] 9)).drew (some ⟨w2.heap.size, 0, none⟩) [[111], e.path]) := hide (reads_two w2 [111] e.path)
      generalize (w2.alloc (.cells #[.string (str [111]), .string (str e.path)] 9)).drew = W3 at *
      generalize w2.heap.size = b3 at RS ⊢
      have X3 := hide (X2.out.below A3.out)
      have B3 := hide (below_next B2.out A3.out)
      have hq1 := (M2.out.below A3.out).2.1
      rw [hkk] at hq1
      clear q0 q1 q2 q3
      go_wp2_with fail
      refine (joinMark_any 32 _ 2 2 [[111], e.path] _ RS.out (by simp) rfl (Nat.le_refl _) (by simp) (by simp [joinC]; omega)).mono ?_
      rintro r w4 ⟨rfl, hb4⟩
      rw [HT.out]
      obtain ⟨⟨t0, t1⟩, t2, t3⟩ := X3.out.below hb4
      have B4 := hide (below_next B3.out hb4)
      clear hb4
      go_wp2_with fail
      exact bodyPost_ret (v := .agg #[.int .i64 0, .string (str (textE e))]) (by simp [results, Tryz.results14, go_sem, t0, t1]) rfl ⟨by rw [HMF.out, HP.out], (B4.out.setCell (p := ⟨w.heap.size + 1, 0, none⟩) (Nat.le_succ _) _).setCell (p := ⟨w.heap.size + 1, 1, none⟩) (Nat.le_succ _) _⟩
  · have HP := hide (entText_bad hf)
    have hne : (entFault e != 0) = true := by simp; exact hf
    obtain ⟨⟨t0, t1⟩, t2, t3⟩ := X2.out
    go_wp2_with fail
    exact bodyPost_ret (v := .agg #[.int .i64 (entFault e), .string ⟨#[]⟩]) (by simp [results, Tryz.results14, go_sem, t0, t1]) rfl ⟨by rw [HP.out]; rfl, (B2.out.setCell (p := ⟨w.heap.size + 1, 0, none⟩) (Nat.le_succ _) _).setCell (p := ⟨w.heap.size + 1, 1, none⟩) (Nat.le_succ _) _⟩
end Go.Proofs.YtcknabinmbknaaaGreatDoor
