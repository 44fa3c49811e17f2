/-
  At every byte slice the law FnPaths returns true: a path is below all that is above it; a text that is made a path is one, and made one again it is the same. No condition.
-/
import Derived.Test.YtdimphfbncbaaaaPathR
import Derived.Test.YtdimphfbncbaaaaDrawN
import Derived.ProofKit
import Derived.OpenShut
import Derived.ShutString
import Derived.ChangeOld
import Derived.Deep.DrawnRows
namespace Go.Proofs.Ytdimphfbncbaaaa.fnPaths
open Go.ChangeShapes Go.WideShapes Go.ChangeAt Go.RowKit
set_option linter.unusedVariables false
attribute [local go_sem ↓] Go.wp_at_zero Go.wp_at_succ

theorem own : ownKnob Try.prog.godebug = none := by kernel_rfl
theorem laidOut : laidOutB Try.prog = true := by kernel_rfl

theorem lwBig_no (a : Option Addr) (cap : Nat) (n : Nat) (w : World) (h : n ≤ 1048576) :
    Calls Try.prog 7 #[.slice a n cap] w fun e w' => e = .returned (.bool false) ∧ w' = w := by
  have hb : ¬ (1048576 : Int) < (n : Int) := by omega
  go_enter Try.func7, Try.ntmps7
  go_wp2
  go_ret
  exact ⟨ret_bool (by simp <;> omega), rfl⟩
theorem lwBig_yes (a : Option Addr) (cap : Nat) (n : Nat) (w : World) (h : 1048576 < n) (h2 : n ≤ maxLen) :
    Calls Try.prog 7 #[.slice a n cap] w fun e w' => e = .returned (.bool true) ∧ w' = w := by
  have hb : (1048576 : Int) < (n : Int) := by omega
  unfold maxLen at h2
  go_enter Try.func7, Try.ntmps7
  go_wp2
  go_ret
  exact ⟨ret_bool (by simp <;> omega), rfl⟩

theorem below_dn {B : Nat} {w w' : World} (h : Below B w w') (n : Nat) : Below B w (w'.drewN n) := h.trans ⟨rfl, rfl, rfl, Nat.le_refl _, fun _ _ => rfl⟩
theorem last_pos {P : Bs} (h : faultP P = 0) : 0 < (lastT P).length := by
  rw [last_good h]
  obtain ⟨ns, hN, _, hc, _⟩ := faultP_zero h
  rw [hc]
  have hm : lastN ns ∈ ns := List.mem_of_getElem? (getLast_at hN.1)
  exact List.length_pos_iff.2 (plain_ne (hN.2.1 _ hm))
theorem path_join {P : Bs} (h : faultP P = 0) (h0 : above P ≠ []) : parT P ++ 47 :: lastT P = P := by
  obtain ⟨ns, hN, hp, hc, _⟩ := faultP_zero h
  have e1 : parT P = (aboveN ns).getLastD [] := by rw [parT, above_good h, hc]
  have e2 : lastT P = lastN ns := by rw [last_good h, hc]
  have hl : 1 < ns.length := by
    have : (above P).length = ns.length - 1 := by rw [above_good h, hc, aboveN_length]
    have := List.length_pos_iff.2 h0
    omega
  rw [e1, e2, parent_join hl, ← hp]

set_option maxRecDepth 100000 in
set_option maxHeartbeats 800000 in
theorem specAboveOf_bad (s : ByteArray) (w : World) (hs : s.size ≤ 2097152) (hf : faultP s.data.toList ≠ 0) :
    Calls Try.prog 37 #[.string s] w fun e w' => e = .returned (.agg #[.int .i64 (faultP s.data.toList), .slice none 0 0]) ∧ Below w.heap.size w w' := by
  go_enter Try.func37, Try.ntmps37
  go_wp2_with fail
  refine (l3Fault_any _ _ hs).mono ?_
  rintro e w1 ⟨rfl, hb1⟩
  have X0 := hide ((Box.new w (.int .i64 0) (.slice none 0 0) 65).below hb1)
  have HB := hide (below_next (below_alloc w _) hb1)
  clear hb1
  obtain ⟨⟨q0, q1⟩, q2, q3⟩ := X0.out
  obtain ⟨c, hc⟩ : ∃ c, c = faultP s.data.toList := ⟨_, rfl⟩
  rw [← hc] at hf ⊢
  have HC := hide hc
  clear hc
  have hf2 : (c != 0) = true := by simpa using hf
  go_wp2_with fail
  rw [← HC.out]
  exact bodyPost_ret (v := .agg #[.int .i64 c, .slice none 0 0]) (by simp [results, Try.results37, go_sem, q0, q1]) rfl ⟨rfl, (HB.out.setCell (Nat.le_refl _) _).setCell (Nat.le_refl _) _⟩

set_option maxRecDepth 100000 in
set_option maxHeartbeats 8000000 in
theorem walk (a0 : Option Addr) (cap0 : Nat) (zs : List Int) (w : World) (hread : Reads .u8 w a0 zs) (hu : U8 zs) (hmax : zs.length ≤ maxLen) :
    Calls Try.prog 6 #[.slice a0 zs.length cap0] w fun e w' => e = .returned (.bool true) ∧ Below w.heap.size w w' := by
  have HR := hide hread
  have HU := hide hu
  clear hread hu
  by_cases hbig : 1048576 < zs.length
  · go_enter Try.func6, Try.ntmps6
    go_wp2_with fail
    refine (lwBig_yes _ _ _ _ hbig hmax).mono ?_
    rintro e w1 ⟨rfl, rfl⟩
    go_wp2_with fail
    go_ret
    exact ⟨rfl, Below.refl _ _⟩
  · have hl : zs.length ≤ 1048576 := by omega
    go_enter Try.func6, Try.ntmps6
    go_wp2_with fail
    refine (lwBig_no _ _ _ _ hl).mono ?_
    rintro e w0 ⟨rfl, hw0⟩
    obtain rfl := hw0
    go_wp2_with fail
    refine (drawNormPath_any a0 cap0 zs _ HR.out HU.out hl).mono ?_
    rintro e w1 ⟨T, rfl, hTl, b1⟩
    have B1 := hide b1
    clear b1
    have hTz : (str T).size ≤ 2097152 := by rw [str_size]; omega
    go_wp2_with fail
    refine (implNormPath_any (str T) _ hTz).mono ?_
    rintro e w2 ⟨rfl, b2⟩
    rw [str_data]
    have X2 := hide (Two.new w2 (.int .i64 (normC T)) (.string (str (normT T))) 36)
    have B2 := hide (below_next (below_next B1.out b2) (below_alloc w2 (.cells #[.int .i64 (normC T), .string (str (normT T))] 36)))
    clear b2 B1
    by_cases hn : normC T = 0
    · have HN := hide hn
      rw [hn] at X2 B2 ⊢
      clear hn
      go_wp2_with fail
      generalize hW2 : w2.alloc (.cells #[.int .i64 0, .string (str (normT T))] 36) = W2 at *
      generalize hp4 : w2.heap.size = p4 at *
      clear hW2 hp4
      have hz0 := norm_zero HN.out
      have hsame := norm_same hz0
      have hnz : (normT T).length ≤ 2097152 := by
        obtain ⟨ns, hNs, hp, _, _⟩ := faultP_zero hz0
        have h1 := join_len ns hNs.2.2.1
        have h2 := hNs.2.2.2
        rw [hp]; omega
      have hnp : normT T ≠ [] := by intro e; rw [e] at hz0; simp [faultP] at hz0
      have f1 : ∀ u : InW (fun x => Below W2.heap.size W2 x), u.val.cell? ⟨p4, 1, none⟩ = some (.string (str (normT T))) := fun u => (X2.out.below u.ok).2
      have C1 : Hid (∀ u : InW (fun x => Below W2.heap.size W2 x), Calls Try.prog 32 #[.string (str (normT T))] u.val fun e w' => e = .returned (.agg #[.int .i64 0, .string (str (normT T))]) ∧ ∃ x : InW (fun x => Below W2.heap.size W2 x), w' = x.val) := fun u =>
        (show Calls Try.prog 32 #[.string (str (normT T))] u.val _ from (implNormPath_any (str (normT T)) u.val (by rw [str_size]; omega)).mono (fun e w' ⟨he, hb⟩ => ⟨by rw [he, str_data, hsame.1, hsame.2], ⟨w', below_next u.ok hb⟩, rfl⟩))
      have C2 : Hid (∀ u : InW (fun x => Below W2.heap.size W2 x), Calls Try.prog 34 #[.string (str (normT T))] u.val fun e w' => e = .returned (.int .i64 0) ∧ ∃ x : InW (fun x => Below W2.heap.size W2 x), w' = x.val) := fun u =>
        (show Calls Try.prog 34 #[.string (str (normT T))] u.val _ from (implPathFault_any (str (normT T)) u.val (by rw [str_size]; omega)).mono (fun e w' ⟨he, hb⟩ => ⟨by rw [he, str_data, hz0], ⟨w', below_next u.ok hb⟩, rfl⟩))
      have hem : (str (normT T)).toList.isEmpty = false := by rw [ByteArray.toList_eq, str_data]; simpa using hnp
      have hne : Nonempty (InW (fun x => Below W2.heap.size W2 x)) := ⟨⟨W2, Below.refl _ _⟩⟩
      have hfd : ∀ w : World, (Instr.field 36 (.agg #[.int .i64 0, .string (str (normT T))]) 1).run Try.prog w = .ok (.string (str (normT T))) w := fun _ => by kernel_rfl
      clear hz0 hsame hnp hnz
      generalize str (normT T) = S0 at *
      refine wp_region_inv (Inv := fun x => Below W2.heap.size W2 x) (by kernel_rfl) (by kernel_rfl) (Below.refl _ _).drew ?_
      repeat (first | go_big_quiet_step (first | (go_at_call 32; exact C1.out _) | (go_at_call 34; exact C2.out _)) | quiet_step (fail))
      refine wpQuiet_nil ?_
      intro _ hw'
      obtain ⟨u, hw''⟩ := hw'
      subst hw''
      have B3 := hide (below_next B2.out u.ok)
      clear f1 C1 C2 hne hfd X2 hem B2
      go_wp2_with fail
      refine (drawAboveOf_any a0 cap0 zs _ (HR.out.below B3.out) HU.out hl).mono ?_
      rintro e w4 ⟨P, rfl, hPl, b4⟩
      have B4 := hide (below_next B3.out b4)
      clear b4 B3
      have hPz : (str P).size ≤ 2097152 := by rw [str_size]; omega
      go_wp2_with fail
      refine (implAboveOf_any (str P) _ hPz).mono ?_
      rintro e w5 ⟨va, vc, rfl, o5, b5⟩
      rw [str_data] at o5 ⊢
      have A5 := hide (o5.below (below_alloc w5 (.cells #[.int .i64 (faultP P), .slice va (above P).length vc] 65)))
      have X5 := hide (Two.new w5 (.int .i64 (faultP P)) (.slice va (above P).length vc) 65)
      have B5 := hide (below_next (below_next B4.out b5) (below_alloc w5 (.cells #[.int .i64 (faultP P), .slice va (above P).length vc] 65)))
      clear b5 o5 B4
      by_cases hf : faultP P = 0
      · have HF := hide hf
        have hlen := above_len P
        have HAB := hide (above_good hf)
        rw [hf] at X5 A5 B5 ⊢
        clear hf
        go_wp2_with fail
        generalize hW5 : w5.alloc (.cells #[.int .i64 0, .slice va (above P).length vc] 65) = W5 at *
        generalize hp6 : w5.heap.size = p6 at *
        clear hW5 hp6
        go_loopw [7] (fun i wr => ∃ j : Nat, j ≤ (above P).length ∧ i = .int .i64 j ∧ Hid (Below W5.heap.size W5 wr)) (fun i _ => (above P).length - (intOf i).toNat)
        case atStart => exact ⟨0, Nat.zero_le _, rfl, hide (Below.refl _ _)⟩
        case round =>
          obtain ⟨j, hj, rfl, HBj⟩ := hrel
          by_cases hlt : j < (above P).length
          · obtain ⟨gb, go, q, rfl, hgb, hq, hck⟩ := (A5.out.reads.below HBj.out).at hlt
            have hqm := List.mem_of_getElem? hq
            have hqz : (str q).size ≤ 2097152 := by
              have h1 := hqm
              rw [HAB.out] at h1
              have h2 := ((above_iff HF.out).1 h1).2
              simp only [belowB, Bool.and_eq_true, decide_eq_true_eq] at h2
              rw [str_size]; omega
            have HQ1 := hide (show isBelow P q = true from decide_eq_true hqm)
            have HQ2 := hide (show isBelow q P = false by
              by_cases hqf : faultP q = 0
              · rw [isBelow_good hqf, below_not HF.out hqm]; simp
              · exact isBelow_bad hqf)
            obtain ⟨x0, x1⟩ := X5.out.below HBj.out
            clear hq
            go_wp2_with fail
            clear x0 x1
            refine (implIsBelow_any (str P) (str q) _ hPz).mono ?_
            rintro e w6 ⟨rfl, b6⟩
            rw [str_data, str_data, HQ1.out]
            have HB6 := hide (below_next HBj.out b6)
            have hck6 : w6.cell? ⟨gb, go + j, none⟩ = some (.string (str q)) := (b6.cell (p := ⟨gb, go + j, none⟩) hgb).trans hck
            clear b6 hck
            obtain ⟨x0, x1⟩ := X5.out.below HB6.out
            go_wp2_with fail
            clear x0 x1 hck6
            refine (implIsBelow_any (str q) (str P) _ hqz).mono ?_
            rintro e w7 ⟨rfl, b7⟩
            rw [str_data, str_data, HQ2.out]
            have HB7 := hide (below_next HB6.out b7)
            clear b7
            go_wp2_with fail
            go_roundw
            case rel => exact ⟨j + 1, by omega, by go_num, HB7⟩
            case measure => simp [intOf]; omega
          · have hje : j = (above P).length := by omega
            subst hje
            obtain ⟨x0, x1⟩ := X5.out.below HBj.out
            have X6 := hide (X5.out.below HBj.out)
            have A6 := hide (A5.out.below HBj.out)
            have B6 := hide (below_next B5.out HBj.out)
            clear HBj A5 B5 X5
            go_wp2_with fail
            clear x0 x1
            refine (implParentOf_any (str P) _ hPz).mono ?_
            rintro e w7 ⟨rfl, b7⟩
            rw [str_data]
            have X7 := hide ((X6.out.below b7).below (below_alloc w7 (.cells #[.int .i64 (parC P), .string (str (parT P))] 36)))
            have A7 := hide ((A6.out.below b7).below (below_alloc w7 (.cells #[.int .i64 (parC P), .string (str (parT P))] 36)))
            have Y7 := hide (Two.new w7 (.int .i64 (parC P)) (.string (str (parT P))) 36)
            have B7 := hide (below_next (below_next B6.out b7) (below_alloc w7 (.cells #[.int .i64 (parC P), .string (str (parT P))] 36)))
            clear b7 X6 A6 B6
            go_wp2_with fail
            refine (implLastOf_any (str P) _ hPz).mono ?_
            rintro e w8 ⟨rfl, b8⟩
            rw [str_data, HF.out]
            have X8 := hide ((X7.out.below b8).below (below_alloc w8 (.cells #[.int .i64 0, .string (str (lastT P))] 36)))
            have A8 := hide ((A7.out.below b8).below (below_alloc w8 (.cells #[.int .i64 0, .string (str (lastT P))] 36)))
            have Y8 := hide ((Y7.out.below b8).below (below_alloc w8 (.cells #[.int .i64 0, .string (str (lastT P))] 36)))
            have Z8 := hide (Two.new w8 (.int .i64 0) (.string (str (lastT P))) 36)
            have B8 := hide (below_next (below_next B7.out b8) (below_alloc w8 (.cells #[.int .i64 0, .string (str (lastT P))] 36)))
            clear b8 X7 A7 Y7 B7
            go_wp2_with fail
            generalize hW8 : w8.alloc (.cells #[.int .i64 0, .string (str (lastT P))] 36) = W8 at *
            generalize hp7 : w7.heap.size = p7 at *
            generalize hp8 : w8.heap.size = p8 at *
            clear hW8 hp7 hp8
            have hlz := last_pos HF.out
            have hlz' : (0 : Int) < ((str (lastT P)).size : Int) := by rw [str_size]; omega
            have HLZ := hide (show 0 < (str (lastT P)).size by rw [str_size]; omega)
            obtain ⟨x0, x1⟩ := X8.out
            obtain ⟨y0, y1⟩ := Y8.out
            obtain ⟨z0, z1⟩ := Z8.out
            by_cases h0 : above P = []
            · have hpc := (par_none HF.out (by rw [← HAB.out]; exact h0)).1
              rw [hpc] at y0
              rw [h0] at x1
              clear hpc
              go_quiet (fail)
              go_wp2_with fail
              go_ret
              exact ⟨ret_bool (decide_eq_true HLZ.out), below_dn B8.out _⟩
            · have hpg := par_good HF.out (by rw [← HAB.out]; exact h0)
              rw [hpg.1] at y0
              have HJP := hide (show str (parT P) ++ (⟨#[47]⟩ : ByteArray) ++ str (lastT P) = str P by rw [join_str, path_join HF.out h0])
              obtain ⟨gb, go, q, rfl, hgb, hq, hck⟩ := A8.out.reads.at (k := (above P).length - 1) (by have := List.length_pos_iff.2 h0; omega)
              obtain rfl : parT P = q := by rw [parT]; exact Option.some.inj ((getLast_at h0).symm.trans hq)
              have hn1 : (1 : Int) ≤ ((above P).length : Int) := by have := List.length_pos_iff.2 h0; omega
              have hn2 : ((above P).length : Int) ≤ 2 := by omega
              have hn3 : (((above P).length : Int) == 0) = false := by simp; omega
              have hpl : (parT P).length ≤ 9 := by have h1 := congrArg List.length (path_join HF.out h0); simp at h1; omega
              have hll : (lastT P).length ≤ 9 := by have h1 := congrArg List.length (path_join HF.out h0); simp at h1; omega
              have hz1 : ¬ 9223372036854775807 < (str (parT P)).size + 1 := by rw [str_size]; omega
              have hz2 : ¬ 9223372036854775807 < (str (parT P)).size + 1 + (str (lastT P)).size := by rw [str_size, str_size]; omega
              have hjp := HJP.out
              clear hq hpg
              generalize (above P).length = n at *
              generalize str (parT P) = s1 at *
              generalize str (lastT P) = s2 at *
              generalize str P = s3 at *
              go_quiet (fail)
              go_wp2_with fail
              go_ret
              exact ⟨ret_bool (decide_eq_true HLZ.out), below_dn B8.out _⟩
      · have hcc : (faultP P == faultP P) = true := by simp
        have hne0 : (faultP P != 0) = true := by simpa using hf
        have HFN := hide hf
        go_wp2_with fail
        generalize hW5 : w5.alloc (.cells #[.int .i64 (faultP P), .slice va (above P).length vc] 65) = W5 at *
        generalize hp6 : w5.heap.size = p6 at *
        clear hW5 hp6
        have f1 : ∀ u : InW (fun x => Below W5.heap.size W5 x), u.val.cell? ⟨p6, 0, none⟩ = some (.int .i64 (faultP P)) := fun u => (X5.out.below u.ok).1
        have C1 : Hid (∀ u : InW (fun x => Below W5.heap.size W5 x), Calls Try.prog 37 #[.string (str P)] u.val fun e w' => e = .returned (.agg #[.int .i64 (faultP P), .slice none 0 0]) ∧ ∃ x : InW (fun x => Below W5.heap.size W5 x), w' = x.val) := fun u =>
          (show Calls Try.prog 37 #[.string (str P)] u.val _ from (specAboveOf_bad (str P) u.val hPz (by rw [str_data]; exact HFN.out)).mono (fun e w' ⟨he, hb⟩ => ⟨by rw [he, str_data], ⟨w', below_next u.ok hb⟩, rfl⟩))
        have C2 : Hid (∀ u : InW (fun x => Below W5.heap.size W5 x), Calls Try.prog 34 #[.string (str P)] u.val fun e w' => e = .returned (.int .i64 (faultP P)) ∧ ∃ x : InW (fun x => Below W5.heap.size W5 x), w' = x.val) := fun u =>
          (show Calls Try.prog 34 #[.string (str P)] u.val _ from (implPathFault_any (str P) u.val hPz).mono (fun e w' ⟨he, hb⟩ => ⟨by rw [he, str_data], ⟨w', below_next u.ok hb⟩, rfl⟩))
        have C3 : Hid (∀ u : InW (fun x => Below W5.heap.size W5 x), Calls Try.prog 38 #[.string (str P)] u.val fun e w' => e = .returned (.agg #[.int .i64 (faultP P), .string (str (lastT P))]) ∧ ∃ x : InW (fun x => Below W5.heap.size W5 x), w' = x.val) := fun u =>
          (show Calls Try.prog 38 #[.string (str P)] u.val _ from (implLastOf_any (str P) u.val hPz).mono (fun e w' ⟨he, hb⟩ => ⟨by rw [he, str_data], ⟨w', below_next u.ok hb⟩, rfl⟩))
        have hne : Nonempty (InW (fun x => Below W5.heap.size W5 x)) := ⟨⟨W5, Below.refl _ _⟩⟩
        have hfd1 : ∀ w : World, (Instr.field 65 (.agg #[.int .i64 (faultP P), .slice none 0 0]) 0).run Try.prog w = .ok (.int .i64 (faultP P)) w := fun _ => by kernel_rfl
        have hfd2 : ∀ w : World, (Instr.field 36 (.agg #[.int .i64 (faultP P), .string (str (lastT P))]) 0).run Try.prog w = .ok (.int .i64 (faultP P)) w := fun _ => by kernel_rfl
        generalize faultP P = fc at *
        generalize str (lastT P) = S1 at *
        generalize str P = S0 at *
        refine wp_region_inv (Inv := fun x => Below W5.heap.size W5 x) (by kernel_rfl) (by kernel_rfl) (Below.refl _ _).drew ?_
        repeat (first | go_big_quiet_step (first | (go_at_call 37; exact C1.out _) | (go_at_call 34; exact C2.out _) | (go_at_call 38; exact C3.out _)) | quiet_step (fail))
        refine wpQuiet_nil ?_
        intro _ hw'
        obtain ⟨u, hw''⟩ := hw'
        subst hw''
        have B6 := hide (below_next B5.out u.ok)
        go_wp2_with fail
        go_ret
        exact ⟨rfl, B6.out⟩
    · have hn0 : (normC T != 0) = true := by simpa using hn
      have hnn : (normC T != normC T) = false := by simp
      go_wp2_with fail
      generalize hW2 : w2.alloc (.cells #[.int .i64 (normC T), .string (str (normT T))] 36) = W2 at *
      generalize hp4 : w2.heap.size = p4 at *
      clear hW2 hp4
      have f1 : ∀ u : InW (fun x => Below W2.heap.size W2 x), u.val.cell? ⟨p4, 0, none⟩ = some (.int .i64 (normC T)) := fun u => (X2.out.below u.ok).1
      have C1 : Hid (∀ u : InW (fun x => Below W2.heap.size W2 x), Calls Try.prog 33 #[.string (str T)] u.val fun e w' => e = .returned (.agg #[.int .i64 (normC T), .string (str (normT T))]) ∧ ∃ x : InW (fun x => Below W2.heap.size W2 x), w' = x.val) := fun u =>
        (show Calls Try.prog 33 #[.string (str T)] u.val _ from (specNormPath_any (str T) u.val hTz).mono (fun e w' ⟨he, hb⟩ => ⟨by rw [he, str_data], ⟨w', below_next u.ok hb⟩, rfl⟩))
      have hne : Nonempty (InW (fun x => Below W2.heap.size W2 x)) := ⟨⟨W2, Below.refl _ _⟩⟩
      have hfd : ∀ w : World, (Instr.field 36 (.agg #[.int .i64 (normC T), .string (str (normT T))]) 0).run Try.prog w = .ok (.int .i64 (normC T)) w := fun _ => by kernel_rfl
      refine wp_region_inv (Inv := fun x => Below W2.heap.size W2 x) (by kernel_rfl) (by kernel_rfl) (Below.refl _ _).drew ?_
      repeat (first | go_big_quiet_step ((go_at_call 33; exact C1.out _)) | quiet_step (fail))
      refine wpQuiet_nil ?_
      intro _ hw'
      obtain ⟨u, hw''⟩ := hw'
      subst hw''
      have B3 := hide (below_next B2.out u.ok)
      clear f1 C1 hne hfd X2 hnn hn0 hn B2
      go_wp2_with fail
      refine (drawAboveOf_any a0 cap0 zs _ (HR.out.below B3.out) HU.out hl).mono ?_
      rintro e w4 ⟨P, rfl, hPl, b4⟩
      have B4 := hide (below_next B3.out b4)
      clear b4 B3
      have hPz : (str P).size ≤ 2097152 := by rw [str_size]; omega
      go_wp2_with fail
      refine (implAboveOf_any (str P) _ hPz).mono ?_
      rintro e w5 ⟨va, vc, rfl, o5, b5⟩
      rw [str_data] at o5 ⊢
      have A5 := hide (o5.below (below_alloc w5 (.cells #[.int .i64 (faultP P), .slice va (above P).length vc] 65)))
      have X5 := hide (Two.new w5 (.int .i64 (faultP P)) (.slice va (above P).length vc) 65)
      have B5 := hide (below_next (below_next B4.out b5) (below_alloc w5 (.cells #[.int .i64 (faultP P), .slice va (above P).length vc] 65)))
      clear b5 o5 B4
      by_cases hf : faultP P = 0
      · have HF := hide hf
        have hlen := above_len P
        have HAB := hide (above_good hf)
        rw [hf] at X5 A5 B5 ⊢
        clear hf
        go_wp2_with fail
        generalize hW5 : w5.alloc (.cells #[.int .i64 0, .slice va (above P).length vc] 65) = W5 at *
        generalize hp6 : w5.heap.size = p6 at *
        clear hW5 hp6
        go_loopw [7] (fun i wr => ∃ j : Nat, j ≤ (above P).length ∧ i = .int .i64 j ∧ Hid (Below W5.heap.size W5 wr)) (fun i _ => (above P).length - (intOf i).toNat)
        case atStart => exact ⟨0, Nat.zero_le _, rfl, hide (Below.refl _ _)⟩
        case round =>
          obtain ⟨j, hj, rfl, HBj⟩ := hrel
          by_cases hlt : j < (above P).length
          · obtain ⟨gb, go, q, rfl, hgb, hq, hck⟩ := (A5.out.reads.below HBj.out).at hlt
            have hqm := List.mem_of_getElem? hq
            have hqz : (str q).size ≤ 2097152 := by
              have h1 := hqm
              rw [HAB.out] at h1
              have h2 := ((above_iff HF.out).1 h1).2
              simp only [belowB, Bool.and_eq_true, decide_eq_true_eq] at h2
              rw [str_size]; omega
            have HQ1 := hide (show isBelow P q = true from decide_eq_true hqm)
            have HQ2 := hide (show isBelow q P = false by
              by_cases hqf : faultP q = 0
              · rw [isBelow_good hqf, below_not HF.out hqm]; simp
              · exact isBelow_bad hqf)
            obtain ⟨x0, x1⟩ := X5.out.below HBj.out
            clear hq
            go_wp2_with fail
            clear x0 x1
            refine (implIsBelow_any (str P) (str q) _ hPz).mono ?_
            rintro e w6 ⟨rfl, b6⟩
            rw [str_data, str_data, HQ1.out]
            have HB6 := hide (below_next HBj.out b6)
            have hck6 : w6.cell? ⟨gb, go + j, none⟩ = some (.string (str q)) := (b6.cell (p := ⟨gb, go + j, none⟩) hgb).trans hck
            clear b6 hck
            obtain ⟨x0, x1⟩ := X5.out.below HB6.out
            go_wp2_with fail
            clear x0 x1 hck6
            refine (implIsBelow_any (str q) (str P) _ hqz).mono ?_
            rintro e w7 ⟨rfl, b7⟩
            rw [str_data, str_data, HQ2.out]
            have HB7 := hide (below_next HB6.out b7)
            clear b7
            go_wp2_with fail
            go_roundw
            case rel => exact ⟨j + 1, by omega, by go_num, HB7⟩
            case measure => simp [intOf]; omega
          · have hje : j = (above P).length := by omega
            subst hje
            obtain ⟨x0, x1⟩ := X5.out.below HBj.out
            have X6 := hide (X5.out.below HBj.out)
            have A6 := hide (A5.out.below HBj.out)
            have B6 := hide (below_next B5.out HBj.out)
            clear HBj A5 B5 X5
            go_wp2_with fail
            clear x0 x1
            refine (implParentOf_any (str P) _ hPz).mono ?_
            rintro e w7 ⟨rfl, b7⟩
            rw [str_data]
            have X7 := hide ((X6.out.below b7).below (below_alloc w7 (.cells #[.int .i64 (parC P), .string (str (parT P))] 36)))
            have A7 := hide ((A6.out.below b7).below (below_alloc w7 (.cells #[.int .i64 (parC P), .string (str (parT P))] 36)))
            have Y7 := hide (Two.new w7 (.int .i64 (parC P)) (.string (str (parT P))) 36)
            have B7 := hide (below_next (below_next B6.out b7) (below_alloc w7 (.cells #[.int .i64 (parC P), .string (str (parT P))] 36)))
            clear b7 X6 A6 B6
            go_wp2_with fail
            refine (implLastOf_any (str P) _ hPz).mono ?_
            rintro e w8 ⟨rfl, b8⟩
            rw [str_data, HF.out]
            have X8 := hide ((X7.out.below b8).below (below_alloc w8 (.cells #[.int .i64 0, .string (str (lastT P))] 36)))
            have A8 := hide ((A7.out.below b8).below (below_alloc w8 (.cells #[.int .i64 0, .string (str (lastT P))] 36)))
            have Y8 := hide ((Y7.out.below b8).below (below_alloc w8 (.cells #[.int .i64 0, .string (str (lastT P))] 36)))
            have Z8 := hide (Two.new w8 (.int .i64 0) (.string (str (lastT P))) 36)
            have B8 := hide (below_next (below_next B7.out b8) (below_alloc w8 (.cells #[.int .i64 0, .string (str (lastT P))] 36)))
            clear b8 X7 A7 Y7 B7
            go_wp2_with fail
            generalize hW8 : w8.alloc (.cells #[.int .i64 0, .string (str (lastT P))] 36) = W8 at *
            generalize hp7 : w7.heap.size = p7 at *
            generalize hp8 : w8.heap.size = p8 at *
            clear hW8 hp7 hp8
            have hlz := last_pos HF.out
            have hlz' : (0 : Int) < ((str (lastT P)).size : Int) := by rw [str_size]; omega
            have HLZ := hide (show 0 < (str (lastT P)).size by rw [str_size]; omega)
            obtain ⟨x0, x1⟩ := X8.out
            obtain ⟨y0, y1⟩ := Y8.out
            obtain ⟨z0, z1⟩ := Z8.out
            by_cases h0 : above P = []
            · have hpc := (par_none HF.out (by rw [← HAB.out]; exact h0)).1
              rw [hpc] at y0
              rw [h0] at x1
              clear hpc
              go_quiet (fail)
              go_wp2_with fail
              go_ret
              exact ⟨ret_bool (decide_eq_true HLZ.out), below_dn B8.out _⟩
            · have hpg := par_good HF.out (by rw [← HAB.out]; exact h0)
              rw [hpg.1] at y0
              have HJP := hide (show str (parT P) ++ (⟨#[47]⟩ : ByteArray) ++ str (lastT P) = str P by rw [join_str, path_join HF.out h0])
              obtain ⟨gb, go, q, rfl, hgb, hq, hck⟩ := A8.out.reads.at (k := (above P).length - 1) (by have := List.length_pos_iff.2 h0; omega)
              obtain rfl : parT P = q := by rw [parT]; exact Option.some.inj ((getLast_at h0).symm.trans hq)
              have hn1 : (1 : Int) ≤ ((above P).length : Int) := by have := List.length_pos_iff.2 h0; omega
              have hn2 : ((above P).length : Int) ≤ 2 := by omega
              have hn3 : (((above P).length : Int) == 0) = false := by simp; omega
              have hpl : (parT P).length ≤ 9 := by have h1 := congrArg List.length (path_join HF.out h0); simp at h1; omega
              have hll : (lastT P).length ≤ 9 := by have h1 := congrArg List.length (path_join HF.out h0); simp at h1; omega
              have hz1 : ¬ 9223372036854775807 < (str (parT P)).size + 1 := by rw [str_size]; omega
              have hz2 : ¬ 9223372036854775807 < (str (parT P)).size + 1 + (str (lastT P)).size := by rw [str_size, str_size]; omega
              have hjp := HJP.out
              clear hq hpg
              generalize (above P).length = n at *
              generalize str (parT P) = s1 at *
              generalize str (lastT P) = s2 at *
              generalize str P = s3 at *
              go_quiet (fail)
              go_wp2_with fail
              go_ret
              exact ⟨ret_bool (decide_eq_true HLZ.out), below_dn B8.out _⟩
      · have hcc : (faultP P == faultP P) = true := by simp
        have hne0 : (faultP P != 0) = true := by simpa using hf
        have HFN := hide hf
        go_wp2_with fail
        generalize hW5 : w5.alloc (.cells #[.int .i64 (faultP P), .slice va (above P).length vc] 65) = W5 at *
        generalize hp6 : w5.heap.size = p6 at *
        clear hW5 hp6
        have f1 : ∀ u : InW (fun x => Below W5.heap.size W5 x), u.val.cell? ⟨p6, 0, none⟩ = some (.int .i64 (faultP P)) := fun u => (X5.out.below u.ok).1
        have C1 : Hid (∀ u : InW (fun x => Below W5.heap.size W5 x), Calls Try.prog 37 #[.string (str P)] u.val fun e w' => e = .returned (.agg #[.int .i64 (faultP P), .slice none 0 0]) ∧ ∃ x : InW (fun x => Below W5.heap.size W5 x), w' = x.val) := fun u =>
          (show Calls Try.prog 37 #[.string (str P)] u.val _ from (specAboveOf_bad (str P) u.val hPz (by rw [str_data]; exact HFN.out)).mono (fun e w' ⟨he, hb⟩ => ⟨by rw [he, str_data], ⟨w', below_next u.ok hb⟩, rfl⟩))
        have C2 : Hid (∀ u : InW (fun x => Below W5.heap.size W5 x), Calls Try.prog 34 #[.string (str P)] u.val fun e w' => e = .returned (.int .i64 (faultP P)) ∧ ∃ x : InW (fun x => Below W5.heap.size W5 x), w' = x.val) := fun u =>
          (show Calls Try.prog 34 #[.string (str P)] u.val _ from (implPathFault_any (str P) u.val hPz).mono (fun e w' ⟨he, hb⟩ => ⟨by rw [he, str_data], ⟨w', below_next u.ok hb⟩, rfl⟩))
        have C3 : Hid (∀ u : InW (fun x => Below W5.heap.size W5 x), Calls Try.prog 38 #[.string (str P)] u.val fun e w' => e = .returned (.agg #[.int .i64 (faultP P), .string (str (lastT P))]) ∧ ∃ x : InW (fun x => Below W5.heap.size W5 x), w' = x.val) := fun u =>
          (show Calls Try.prog 38 #[.string (str P)] u.val _ from (implLastOf_any (str P) u.val hPz).mono (fun e w' ⟨he, hb⟩ => ⟨by rw [he, str_data], ⟨w', below_next u.ok hb⟩, rfl⟩))
        have hne : Nonempty (InW (fun x => Below W5.heap.size W5 x)) := ⟨⟨W5, Below.refl _ _⟩⟩
        have hfd1 : ∀ w : World, (Instr.field 65 (.agg #[.int .i64 (faultP P), .slice none 0 0]) 0).run Try.prog w = .ok (.int .i64 (faultP P)) w := fun _ => by kernel_rfl
        have hfd2 : ∀ w : World, (Instr.field 36 (.agg #[.int .i64 (faultP P), .string (str (lastT P))]) 0).run Try.prog w = .ok (.int .i64 (faultP P)) w := fun _ => by kernel_rfl
        generalize faultP P = fc at *
        generalize str (lastT P) = S1 at *
        generalize str P = S0 at *
        refine wp_region_inv (Inv := fun x => Below W5.heap.size W5 x) (by kernel_rfl) (by kernel_rfl) (Below.refl _ _).drew ?_
        repeat (first | go_big_quiet_step (first | (go_at_call 37; exact C1.out _) | (go_at_call 34; exact C2.out _) | (go_at_call 38; exact C3.out _)) | quiet_step (fail))
        refine wpQuiet_nil ?_
        intro _ hw'
        obtain ⟨u, hw''⟩ := hw'
        subst hw''
        have B6 := hide (below_next B5.out u.ok)
        go_wp2_with fail
        go_ret
        exact ⟨rfl, B6.out⟩

set_option maxRecDepth 100000 in
theorem lifted (os : Os) (started : os.Started) (H : Type) (enc : TypeId × Value → H) :
    ReturnsInHanded {} Try.checked os 6 .any (Rows.fnPathsSpec.pre6 enc Try.prog Try.f6 Rows.fnPathsRow.domain false) (Rows.fnPathsSpec.post enc Try.prog Try.f6 false true false false) := by
  refine returnsInHanded_of_change (C := Try.checked) own started (by kernel_rfl) Try.func6
    (ChangeSpec.witness6 (enc := enc) (C := Try.checked) false ⟨#[], #[.slice none 0 0], []⟩ 8 (by kernel_rfl) (by kernel_rfl) (by kernel_rfl) (by kernel_rfl)) ?_
  intro W base args ds gs before hval0 hW hcnd _
  have hval : ∀ (j : Nat) t v, Try.f6.params[j]? = some t → args[j]? = some v → Value.okWide Try.prog W .any base t v := hval0
  have hW' := hW
  obtain ⟨p, q, hA0, hV, rfl, hfz, hnd⟩ := hW
  have hA : DataW.TrodAll enc Try.prog W 0 (fun _ => true) true Try.f6.params.toList args.toList ds p := hA0
  rw [Try.params6] at hA hval
  obtain ⟨v0, vs0, d0, ds0, p0, q0, hargs, rfl, rfl, h0, r0⟩ := trodAll_cons hA
  obtain ⟨rfl, rfl, rfl⟩ := trodAll_nil r0
  obtain rfl : args = #[v0] := by cases args; simp_all
  obtain ⟨rfl, rfl⟩ := trodVars_none hV
  obtain ⟨a0, len0, cap0, rfl⟩ := okWide_slice Try.underlying22 (hval 0 22 v0 rfl rfl)
  have k0 := h0
  have lt0 : ∀ x ∈ p0, x.block < W.heap.size := by obtain ⟨m, hm⟩ := k0; exact DataW.trod_lt m _ _ _ hm
  obtain ⟨zs, hlen, hread, hu, hmax⟩ : ∃ zs : List Int, zs.length = len0 ∧ Reads .u8 W a0 zs ∧ U8 zs ∧ zs.length ≤ maxLen := by
    obtain ⟨fuel, hf⟩ := h0
    rcases open_ints Try.underlying22 Try.underlying5 (by kernel_rfl) hf with ⟨hcs, _⟩ | ⟨x, l, c, zs, hcs, _, hl, hm, hz, _, hcell, hwz⟩
    · simp [Value.cells] at hcs
      obtain ⟨rfl, rfl, rfl⟩ := hcs
      exact ⟨[], rfl, fun h => absurd rfl h, fun z hz => by simp at hz, Nat.zero_le _⟩
    · simp [Value.cells] at hcs
      obtain ⟨rfl, rfl, rfl⟩ := hcs
      exact reads_of_row (by simpa using hz) hl hm hcell hwz
  subst hlen
  clear hA0 hval0
  refine (walk a0 cap0 zs W hread hu hmax).mono fun e W' ⟨he, bel⟩ => ?_
  subst he
  exact ⟨_, rfl, _, _, _, [], _, [], hW', trodAll_mk1 (shut_bool Try.underlying4 _), (trodAll_cons_mk (Below.trod laidOut (by kernel_rfl) (of_decide_eq_true (by kernel_rfl)) k0 bel lt0) trodAll_mk0), rfl, bel.frame _, fun h => by cases h⟩

theorem over : Rows.fnPathsRow.holds Try.pinned (OpenSpec.ofChange Rows.fnPathsSpec) :=
  OpenClaim.holds_of_wide 6 Try.f6 rfl rfl rfl rfl rfl rfl rfl ⟨rfl, rfl, rfl, rfl, rfl⟩ rfl rfl rfl rfl rfl (by kernel_rfl) Try.func6 (by kernel_rfl)
    (of_decide_eq_true (by kernel_rfl)) (by unfold Func.isWrapper; first | (rw [if_pos (by decide +kernel)]; kernel_rfl) | (rw [if_neg (by decide +kernel)]; exact ⟨rfl, rfl⟩))
    (fun os started H enc _ => lifted os started H enc)

end Go.Proofs.Ytdimphfbncbaaaa.fnPaths
namespace Go.Proofs.Ytdimphfbncbaaaa
theorem fnPaths_holds : Rows.FnPathsSaid := fnPaths.over
#print axioms fnPaths_holds
end Go.Proofs.Ytdimphfbncbaaaa
