/-
  At every byte slice the law FnDigests returns true: a digest is read back from its text, and bytes are joined again from their pieces. No condition.
-/
import Derived.Test.YtmnfpmkiombbdaaDrawHex
import Derived.Test.YtmnfpmkiombbdaaDigests
import Derived.ProofKit
import Derived.OpenShut
import Derived.ShutString
import Derived.ChangeOld
import Derived.Laws.BytesArg
namespace Go.Proofs.Ytmnfpmkiombbdaa.fnDigests
open Go.ChangeShapes Go.WideShapes Go.ChangeAt Go.RowKit
set_option linter.unusedVariables false

theorem own : ownKnob Try.prog.godebug = none := by kernel_rfl
theorem laidOut : laidOutB Try.prog = true := by kernel_rfl

theorem lwBig_no (a : Option Addr) (cap : Nat) (n : Nat) (w : World) (h : n ≤ 1048576) :
    Calls Try.prog 4 #[.slice a n cap] w fun e w' => e = .returned (.bool false) ∧ w' = w := by
  have hb : ¬ (1048576 : Int) < (n : Int) := by omega
  go_enter Try.func4, Try.ntmps4
  go_wp2
  go_ret
  exact ⟨ret_bool (by simp <;> omega), rfl⟩
theorem lwBig_yes (a : Option Addr) (cap : Nat) (n : Nat) (w : World) (h : 1048576 < n) (h2 : n ≤ maxLen) :
    Calls Try.prog 4 #[.slice a n cap] w fun e w' => e = .returned (.bool true) ∧ w' = w := by
  have hb : (1048576 : Int) < (n : Int) := by omega
  unfold maxLen at h2
  go_enter Try.func4, Try.ntmps4
  go_wp2
  go_ret
  exact ⟨ret_bool (by simp <;> omega), rfl⟩

theorem drawCutChunks_any (a : Option Addr) (cap : Nat) (zs : List Int) (w : World) (h : Reads .u8 w a zs) (hu : U8 zs) (hl : zs.length ≤ 1048576) :
    Calls Try.prog 5 #[.slice a zs.length cap] w fun e w' => ∃ v ds, e = .returned v ∧ ds.length ≤ 25 ∧ U8 ds ∧ w'.ownsRow w.heap.size 5 1 v ds.length (ds.map (Value.int .u8)) ∧ Below w.heap.size w w' := by
  have HR := hide h
  have HU := hide hu
  clear h hu
  go_enter Try.func5, Try.ntmps5
  go_wp2_with fail
  refine (l1Data_any a cap zs _ HR.out HU.out hl).mono ?_
  rintro e w1 ⟨v, ds, rfl, h1, h2, h3, h4⟩
  have H2 := hide h2
  have H3 := hide h3
  have H4 := hide h4
  clear h2 h3 h4
  go_wp2_with fail
  go_ret
  exact ⟨_, ds, rfl, h1, H2.out, H3.out, H4.out⟩

theorem str_join (xs ys : List Int) : strOfNums xs ++ strOfNums ys = strOfNums (xs ++ ys) := by
  apply ByteArray.ext
  simp [strOfNums]

theorem conv_own {w : World} {base : Nat} {a : Option Addr} {c : Nat} {ds : List Int} (h : w.ownsRow base 5 1 (.slice a ds.length c) ds.length (ds.map (Value.int .u8))) :
    Sem.run Try.prog (convert 22 9 (.slice a ds.length c)) w = .ok (.string (strOfNums ds)) w := by
  rcases h.2 with ⟨h', h0⟩ | ⟨g, cap, cur, h', hb, hh, hnc, hcm, hcs, htake⟩
  · simp only [Value.slice.injEq] at h'
    obtain ⟨rfl, _, rfl⟩ := h'
    have e : ds = [] := List.eq_nil_of_length_eq_zero h0
    subst e
    exact run_convert_bytes_nil (P := Try.prog) w 22 5 Try.underlying22 Try.underlying5 0 0 9 Try.underlying9
  · simp only [Value.slice.injEq, true_and] at h'
    obtain ⟨rfl, rfl⟩ := h'
    exact run_convert_bytes_arg (P := Try.prog) w 22 5 Try.underlying22 Try.underlying5 g 0 ds.length c ds rfl (fun i hi => by rw [Nat.zero_add, h.cellAt i (by omega)]; simp [List.getD_eq_getElem?_getD, hi]) 9 Try.underlying9

theorem getD_range (f : Nat → Int) (N j : Nat) (h : j < N) : ((List.range N).map f).getD j 0 = f j := by simp [List.getD_eq_getElem?_getD, h]
theorem add_short (S1 S2 : ByteArray) (h1 : S1.size ≤ 24) (h2 : S2.size ≤ 8) (w : World) : (Op.stringOp .add S1 S2).run Try.prog w = .ok (.string (S1 ++ S2)) w := run_string_add_sum w _ _ (by omega)

theorem piece_facts {W : World} {ds : List Int} {B j N c2 : Nat} {a2 a3 : Option Addr} (hlt : j < N) (hN : ds.length ≤ 8 * N ∧ 8 * N < ds.length + 8) (h24 : ds.length ≤ 24) (hG : Grow2 B W (.slice a2 N c2) (piece ds) N) (hI : Own .i64 W a3 (digs ds N)) (hU : U8 ds) :
    ∃ (g bx ox d b3 o3 pl : Nat) (S2 : ByteArray) (dg1 : Int) (S3 : ByteArray), a2 = some ⟨g, 0, none⟩ ∧ a3 = some ⟨b3, o3, none⟩ ∧ W.cell? ⟨g, j, none⟩ = some (.slice (some ⟨bx, ox, none⟩) pl d) ∧ W.cell? ⟨b3, o3 + j, none⟩ = some (.int .i64 dg1) ∧ 0 < pl ∧ pl ≤ 8 ∧
      Sem.run Try.prog (convert 22 9 (.slice (some ⟨bx, ox, none⟩) pl d)) W = .ok (.string S2) W ∧
      (∀ w : World, (Op.stringOp .add (strOfNums (ds.take (8 * j))) S2).run Try.prog w = .ok (.string S3) w) ∧ Hid (S3 = strOfNums (ds.take (8 * (j + 1)))) ∧
      Hid (Calls Try.prog 9 #[.slice (some ⟨bx, ox, none⟩) pl d] W fun e w' => e = .returned (.int .i64 dg1) ∧ w' = W) ∧ 0 ≤ dg1 ∧ dg1 ≤ 4294967295 := by
  obtain ⟨g, x, d, rfl, hc0, hr0⟩ := hG.at hlt
  obtain ⟨b3, o3, rfl, hb3, hl3⟩ := hI (by intro e; have := digs_length ds N; rw [e] at this; simp at this; omega)
  have hl3j := (hl3 j (by rw [digs_length]; exact hlt)).1
  have hdj : (digs ds N).getD j 0 = digest (piece ds j) := getD_range (fun i => digest (piece ds i)) N j hlt
  rw [hdj] at hl3j
  have hp0 : 0 < (piece ds j).length := by rw [piece_length]; omega
  have hp8 : (piece ds j).length ≤ 8 := by rw [piece_length]; omega
  obtain ⟨bx, ox, rfl, hbx, hcx⟩ := hr0 (by intro e; rw [e] at hp0; simp at hp0)
  have hconv := run_convert_bytes_arg (P := Try.prog) W 22 5 Try.underlying22 Try.underlying5 bx ox (piece ds j).length d (piece ds j) rfl hcx 9 Try.underlying9
  have hs1 : (strOfNums (ds.take (8 * j))).size ≤ 24 := by
    rw [strOfNums_size]
    have := List.length_take_le' (8 * j) ds
    omega
  have hs2 : (strOfNums (piece ds j)).size ≤ 8 := by rw [strOfNums_size]; omega
  have hjoin : strOfNums (ds.take (8 * j)) ++ strOfNums (piece ds j) = strOfNums (ds.take (8 * (j + 1))) := by
    rw [str_join, show 8 * (j + 1) = 8 * j + 8 from by omega, List.take_add]
    rfl
  have hdr := digest_range (piece ds j)
  exact ⟨g, bx, ox, d, b3, o3, (piece ds j).length, strOfNums (piece ds j), digest (piece ds j), strOfNums (ds.take (8 * j)) ++ strOfNums (piece ds j), rfl, rfl, hc0, hl3j, hp0, hp8, hconv, add_short _ _ hs1 hs2, hjoin, implDigestOf_any (some ⟨bx, ox, none⟩) d (piece ds j) W hr0 (hU.piece j) (by omega), hdr.1, hdr.2⟩

set_option maxRecDepth 100000 in
set_option maxHeartbeats 4000000 in
theorem walk (a0 : Option Addr) (cap0 : Nat) (zs : List Int) (w : World) (h : Reads .u8 w a0 zs) (hu : U8 zs) (hmax : zs.length ≤ maxLen) :
    Calls Try.prog 3 #[.slice a0 zs.length cap0] w fun e w' => e = .returned (.bool true) ∧ Below w.heap.size w w' := by
  by_cases hbig : 1048576 < zs.length
  · go_enter Try.func3, Try.ntmps3
    go_wp2_with fail
    refine (lwBig_yes _ _ _ _ hbig hmax).mono ?_
    rintro e w1 ⟨rfl, rfl⟩
    go_wp2_with fail
    go_ret
    exact ⟨rfl, Below.refl _ _⟩
  · have hl : zs.length ≤ 1048576 := by omega
    have HR := hide h
    have HU := hide hu
    clear h hu hbig hmax
    go_enter Try.func3, Try.ntmps3
    go_wp2_with fail
    refine (lwBig_no _ _ _ _ hl).mono ?_
    rintro e w0 ⟨rfl, rfl⟩
    go_wp2_with fail
    refine (drawCutChunks_any a0 cap0 zs _ HR.out HU.out hl).mono ?_
    rintro e w1 ⟨v, ds, rfl, h25, hU, hown, b1⟩
    obtain ⟨a1, c1, rfl⟩ := ownsRow_shape hown
    have hc1 := ownsRow_cap hown
    have O1 := hide hown
    have R1 := hide (ownsRow_own hown rfl).reads
    have U1 := hide hU
    have B1 := hide b1
    clear hown hU b1
    by_cases h24 : ds.length ≤ 24
    · have hcl : (cut ds).length ≤ 3 := by rw [cut_length]; omega
      go_wp2_with fail
      refine (implCutChunks_ok a1 c1 ds _ R1.out hc1 h24).mono ?_
      rintro e w2 ⟨v2, rfl, g2, b2⟩
      obtain ⟨a2, c2, rfl⟩ := g2.shape
      have O2 := hide (ownsRow_below O1.out b2)
      have R2 := hide (R1.out.below b2)
      have G2' := hide g2
      have B2 := hide (below_next B1.out b2)
      clear b2 O1 B1 R1 g2
      go_wp2_with fail
      refine (implDigestsOf_ok a1 c1 ds _ (R2.out.below (below_alloc _ _)) U1.out hc1 h24).mono ?_
      rintro e w3 ⟨v3, rfl, l3, b3⟩
      obtain ⟨a3, c3, rfl⟩ := ownsRow_shape l3
      have n23 : w2.heap.size < w3.heap.size := by have := b3.size; simp at this; omega
      have T3 := hide ((Two.new w2 (.int .i64 0) (.slice a2 (cut ds).length c2) 27).below b3)
      have O3 := hide ((ownsRow_below O2.out (below_alloc _ _)) |> (fun h => ownsRow_below h b3))
      have G3 := hide ((G2'.out.below (below_alloc _ _)).below b3)
      have L3 := hide l3
      have B3 := hide (below_next (below_next B2.out (below_alloc _ _)) b3)
      clear b3 B2 O2 R2 G2' l3
      obtain ⟨t0, t1⟩ := T3.out
      go_wp2_with fail
      clear t0 t1
      have T4 := hide (T3.out.below (below_alloc w3 (.cells #[.int .i64 0, .slice a3 (cut ds).length c3] 31)))
      have V4 := hide (Two.new w3 (.int .i64 0) (.slice a3 (cut ds).length c3) 31)
      have B4 := hide (below_next B3.out (below_alloc w3 (.cells #[.int .i64 0, .slice a3 (cut ds).length c3] 31)))
      have O4 := hide (ownsRow_below O3.out (below_alloc w3 (.cells #[.int .i64 0, .slice a3 (cut ds).length c3] 31)))
      have G4 := hide (G3.out.below (below_alloc w3 (.cells #[.int .i64 0, .slice a3 (cut ds).length c3] 31)))
      have L4 := hide (ownsRow_below L3.out (below_alloc w3 (.cells #[.int .i64 0, .slice a3 (cut ds).length c3] 31)))
      clear T3 B3 O3 G3 L3
      generalize w3.alloc (.cells #[.int .i64 0, .slice a3 (cut ds).length c3] 31) = W at *
      have hN8 : ds.length ≤ 8 * (cut ds).length ∧ 8 * (cut ds).length < ds.length + 8 := by rw [cut_length]; omega
      generalize (cut ds).length = N at *
      have I4 : Hid (Own .i64 W a3 (digs ds N)) := ownsRow_own L4.out (digs_length _ _).symm
      generalize w3.heap.size = p5 at *
      generalize w2.heap.size = p4 at *
      obtain ⟨t0, t1⟩ := T4.out
      obtain ⟨v0, v1⟩ := V4.out
      go_loop [6, 7, 8] (fun all i _ => ∃ j : Nat, j ≤ N ∧ i = .int .i64 j ∧ all = .string (strOfNums (ds.take (8 * j)))) (fun _ i _ => N - (intOf i).toNat)
      case atStart => exact ⟨0, Nat.zero_le _, rfl, rfl⟩
      case round =>
        obtain ⟨j, hj, rfl, rfl⟩ := hrel
        by_cases hlt : j < N
        · obtain ⟨g, bx, ox, d, b3, o3, pl, S2, dg1, S3, rfl, rfl, hc0, hl3, hp0, hp8, hconv, hadd, HJ, HD, d0, d1⟩ := piece_facts hlt hN8 h24 G4.out I4.out U1.out
          have hgt : ¬ (8 : Int) < (pl : Int) := by omega
          have hz : ((pl : Int) == 0) = false := beq_eq_false_iff_ne.2 (by omega)
          have hge : ¬ (N : Int) ≤ (j : Int) := by omega
          have hdd : (dg1 != dg1) = false := by simp
          have HI4 := hide I4
          clear I4
          as_aux_lemma =>
            go_wp2_with fail
            refine HD.out.mono ?_
            rintro e w1' ⟨rfl, rfl⟩
            go_wp2_with fail
            refine (implIsDigest_yes _ _ d0 d1).mono ?_
            rintro e w1' ⟨rfl, rfl⟩
            go_wp2_with fail
            go_round
            case rel => exact ⟨j + 1, by omega, by go_num, by rw [HJ.out]⟩
            case measure => simp [intOf]; omega
        · have hje : j = N := by omega
          subst hje
          have e : ds.take (8 * j) = ds := List.take_of_length_le (by omega)
          rw [e]
          clear e G4 L4 I4
          go_wp2_with fail
          clear t0 t1 v0 v1
          refine (drawHexText_any a0 cap0 zs _ (HR.out.below B4.out) HU.out hl).mono ?_
          rintro e w5 ⟨v, rfl, b5⟩
          have T5 := hide (T4.out.below b5)
          have V5 := hide (V4.out.below b5)
          have O5 := hide (ownsRow_below O4.out b5)
          have B5 := hide (below_next B4.out b5)
          clear b5 T4 V4 O4 B4
          by_cases hv : 0 ≤ v ∧ v ≤ 4294967295
          · obtain ⟨hv0, hv1⟩ := hv
            go_wp2_with fail
            refine (implHexText_ok v _ hv0 hv1).mono ?_
            rintro e w6 ⟨rfl, b6⟩
            have T6 := hide ((T5.out.below b6).below (below_alloc w6 (.cells #[.int .i64 0, .string (hexText v)] 36)))
            have V6 := hide ((V5.out.below b6).below (below_alloc w6 (.cells #[.int .i64 0, .string (hexText v)] 36)))
            have O6 := hide (ownsRow_below (ownsRow_below O5.out b6) (below_alloc w6 (.cells #[.int .i64 0, .string (hexText v)] 36)))
            have X6 := hide (Two.new w6 (.int .i64 0) (.string (hexText v)) 36)
            have B6 := hide (below_next (below_next B5.out b6) (below_alloc w6 (.cells #[.int .i64 0, .string (hexText v)] 36)))
            clear b6 T5 V5 O5 B5
            go_wp2_with fail
            generalize w6.alloc (.cells #[.int .i64 0, .string (hexText v)] 36) = W6 at *
            generalize w6.heap.size = p10 at *
            have f1 : ∀ u : InW (fun x => Below W6.heap.size W6 x), u.val.cell? ⟨p5, 1, none⟩ = some (.slice a3 j c3) := fun u => (V6.out.below u.ok).2
            have f2 : ∀ u : InW (fun x => Below W6.heap.size W6 x), u.val.cell? ⟨p4, 1, none⟩ = some (.slice a2 j c2) := fun u => (T6.out.below u.ok).2
            have f3 : ∀ u : InW (fun x => Below W6.heap.size W6 x), u.val.cell? ⟨p10, 0, none⟩ = some (.int .i64 0) := fun u => (X6.out.below u.ok).1
            have f4 : ∀ u : InW (fun x => Below W6.heap.size W6 x), u.val.cell? ⟨p10, 1, none⟩ = some (.string (hexText v)) := fun u => (X6.out.below u.ok).2
            have f5 : ∀ u : InW (fun x => Below W6.heap.size W6 x), Sem.run Try.prog (convert 22 9 (.slice a1 ds.length c1)) u.val = .ok (.string (strOfNums ds)) u.val := fun u => conv_own (ownsRow_below O6.out u.ok)
            have C9 : Hid (∀ u : InW (fun x => Below W6.heap.size W6 x), Calls Try.prog 9 #[.slice a1 ds.length c1] u.val fun e w' => e = .returned (.int .i64 (digest ds)) ∧ ∃ x : InW (fun x => Below W6.heap.size W6 x), w' = x.val) := fun u =>
              (implDigestOf_any a1 c1 ds u.val (ownsRow_own (ownsRow_below O6.out u.ok) rfl).reads U1.out (by omega)).mono (fun e w' ⟨he, hw⟩ => ⟨he, u, hw⟩)
            have C14 : Hid (∀ u : InW (fun x => Below W6.heap.size W6 x), Calls Try.prog 14 #[.slice a1 ds.length c1] u.val fun e w' => e = .returned (.int .i64 (digest ds)) ∧ ∃ x : InW (fun x => Below W6.heap.size W6 x), w' = x.val) := fun u =>
              (specDigestOf_any a1 c1 ds u.val (ownsRow_own (ownsRow_below O6.out u.ok) rfl).reads U1.out (by omega)).mono (fun e w' ⟨he, hw⟩ => ⟨he, u, hw⟩)
            have C10 : Hid (∀ u : InW (fun x => Below W6.heap.size W6 x), Calls Try.prog 10 #[.int .i64 v] u.val fun e w' => e = .returned (.bool true) ∧ ∃ x : InW (fun x => Below W6.heap.size W6 x), w' = x.val) := fun u =>
              (implIsDigest_yes v u.val hv0 hv1).mono (fun e w' ⟨he, hw⟩ => ⟨he, u, hw⟩)
            have C13 : Hid (∀ u : InW (fun x => Below W6.heap.size W6 x), Calls Try.prog 13 #[.string (hexText v)] u.val fun e w' => e = .returned (.agg #[.int .i64 (pvCode (hexText v)), .int .i64 v]) ∧ ∃ x : InW (fun x => Below W6.heap.size W6 x), w' = x.val) := fun u => by
              have h := implParseHex_any (hexText v) u.val
              rw [pvValue_hex v hv0 hv1] at h
              exact h.mono (fun e w' ⟨he, hb⟩ => ⟨he, ⟨w', below_next u.ok hb⟩, rfl⟩)
            have hS : (((hexText v).size : Int) == 8) = true := by rw [hexText_size]; rfl
            generalize pvCode (hexText v) = pc at *
            generalize hexText v = S8 at *
            have hfd : ∀ w : World, (Instr.field 39 (.agg #[.int .i64 pc, .int .i64 v]) 1).run Try.prog w = .ok (.int .i64 v) w := fun _ => by kernel_rfl
            have hne : Nonempty (InW (fun x => Below W6.heap.size W6 x)) := ⟨⟨W6, Below.refl _ _⟩⟩
            generalize digest ds = dgd at *
            generalize strOfNums ds = S0 at *
            clear T6 V6 O6 X6
            as_aux_lemma =>
              refine wp_region_inv (Inv := fun x => Below W6.heap.size W6 x) (by kernel_rfl) (by kernel_rfl) (Below.refl _ _).drew ?_
              repeat (first | go_big_quiet_step (first | (go_at_call 9; exact C9.out _) | (go_at_call 14; exact C14.out _) | (go_at_call 10; exact C10.out _) | (go_at_call 13; exact C13.out _)) | quiet_step (fail))
              refine wpQuiet_nil ?_
              intro _ hw'
              obtain ⟨u, hw''⟩ := hw'
              subst hw''
              have B7 := hide (below_next B6.out u.ok)
              go_wp2_with fail
              go_ret
              exact ⟨rfl, B7.out⟩
          · have hvn : v < 0 ∨ 4294967295 < v := by omega
            clear hv
            go_wp2_with fail
            refine (implHexText_no v _ hvn).mono ?_
            rintro e w6 ⟨rfl, b6⟩
            have T6 := hide ((T5.out.below b6).below (below_alloc w6 (.cells #[.int .i64 3, .string ⟨#[]⟩] 36)))
            have V6 := hide ((V5.out.below b6).below (below_alloc w6 (.cells #[.int .i64 3, .string ⟨#[]⟩] 36)))
            have O6 := hide (ownsRow_below (ownsRow_below O5.out b6) (below_alloc w6 (.cells #[.int .i64 3, .string ⟨#[]⟩] 36)))
            have X6 := hide (Two.new w6 (.int .i64 3) (.string ⟨#[]⟩) 36)
            have B6 := hide (below_next (below_next B5.out b6) (below_alloc w6 (.cells #[.int .i64 3, .string ⟨#[]⟩] 36)))
            clear b6 T5 V5 O5 B5
            go_wp2_with fail
            generalize w6.alloc (.cells #[.int .i64 3, .string ⟨#[]⟩] 36) = W6 at *
            generalize w6.heap.size = p10 at *
            have f1 : ∀ u : InW (fun x => Below W6.heap.size W6 x), u.val.cell? ⟨p5, 1, none⟩ = some (.slice a3 j c3) := fun u => (V6.out.below u.ok).2
            have f2 : ∀ u : InW (fun x => Below W6.heap.size W6 x), u.val.cell? ⟨p4, 1, none⟩ = some (.slice a2 j c2) := fun u => (T6.out.below u.ok).2
            have f3 : ∀ u : InW (fun x => Below W6.heap.size W6 x), u.val.cell? ⟨p10, 0, none⟩ = some (.int .i64 3) := fun u => (X6.out.below u.ok).1
            have f4 : ∀ u : InW (fun x => Below W6.heap.size W6 x), u.val.cell? ⟨p10, 1, none⟩ = some (.string ⟨#[]⟩) := fun u => (X6.out.below u.ok).2
            have f5 : ∀ u : InW (fun x => Below W6.heap.size W6 x), Sem.run Try.prog (convert 22 9 (.slice a1 ds.length c1)) u.val = .ok (.string (strOfNums ds)) u.val := fun u => conv_own (ownsRow_below O6.out u.ok)
            have C9 : Hid (∀ u : InW (fun x => Below W6.heap.size W6 x), Calls Try.prog 9 #[.slice a1 ds.length c1] u.val fun e w' => e = .returned (.int .i64 (digest ds)) ∧ ∃ x : InW (fun x => Below W6.heap.size W6 x), w' = x.val) := fun u =>
              (implDigestOf_any a1 c1 ds u.val (ownsRow_own (ownsRow_below O6.out u.ok) rfl).reads U1.out (by omega)).mono (fun e w' ⟨he, hw⟩ => ⟨he, u, hw⟩)
            have C14 : Hid (∀ u : InW (fun x => Below W6.heap.size W6 x), Calls Try.prog 14 #[.slice a1 ds.length c1] u.val fun e w' => e = .returned (.int .i64 (digest ds)) ∧ ∃ x : InW (fun x => Below W6.heap.size W6 x), w' = x.val) := fun u =>
              (specDigestOf_any a1 c1 ds u.val (ownsRow_own (ownsRow_below O6.out u.ok) rfl).reads U1.out (by omega)).mono (fun e w' ⟨he, hw⟩ => ⟨he, u, hw⟩)
            have C10 : Hid (∀ u : InW (fun x => Below W6.heap.size W6 x), Calls Try.prog 10 #[.int .i64 v] u.val fun e w' => e = .returned (.bool false) ∧ ∃ x : InW (fun x => Below W6.heap.size W6 x), w' = x.val) := fun u =>
              (implIsDigest_no v u.val (by omega)).mono (fun e w' ⟨he, hw⟩ => ⟨he, u, hw⟩)
            have C13 : Hid (∀ u : InW (fun x => Below W6.heap.size W6 x), Calls Try.prog 13 #[.string ⟨#[]⟩] u.val fun e w' => e = .returned (.agg #[.int .i64 (pvCode ⟨#[]⟩), .int .i64 (pvValue ⟨#[]⟩)]) ∧ ∃ x : InW (fun x => Below W6.heap.size W6 x), w' = x.val) := fun u =>
              (implParseHex_any ⟨#[]⟩ u.val).mono (fun e w' ⟨he, hb⟩ => ⟨he, ⟨w', below_next u.ok hb⟩, rfl⟩)
            have hne : Nonempty (InW (fun x => Below W6.heap.size W6 x)) := ⟨⟨W6, Below.refl _ _⟩⟩
            generalize digest ds = dgd at *
            generalize strOfNums ds = S0 at *
            clear T6 V6 O6 X6
            as_aux_lemma =>
              refine wp_region_inv (Inv := fun x => Below W6.heap.size W6 x) (by kernel_rfl) (by kernel_rfl) (Below.refl _ _).drew ?_
              repeat (first | go_big_quiet_step (first | (go_at_call 9; exact C9.out _) | (go_at_call 14; exact C14.out _) | (go_at_call 10; exact C10.out _) | (go_at_call 13; exact C13.out _)) | quiet_step (fail))
              refine wpQuiet_nil ?_
              intro _ hw'
              obtain ⟨u, hw''⟩ := hw'
              subst hw''
              have B7 := hide (below_next B6.out u.ok)
              go_wp2_with fail
              go_ret
              exact ⟨rfl, B7.out⟩
    · go_wp2_with fail
      refine (implCutChunks_no a1 c1 ds _ (by omega) (by omega)).mono ?_
      rintro e w2 ⟨rfl, b2⟩
      have O2 := hide (ownsRow_below O1.out b2)
      have B2 := hide (below_next B1.out b2)
      clear b2 O1 B1 R1
      go_wp2_with fail
      refine (implDigestsOf_no a1 c1 ds _ (by omega) (by omega)).mono ?_
      rintro e w3 ⟨rfl, b3⟩
      have n23 : w2.heap.size < w3.heap.size := by have := b3.size; simp at this; omega
      have T3 := hide ((Two.new w2 (.int .i64 2) (.slice none 0 0) 27).below b3)
      have B3 := hide (below_next (below_next B2.out (below_alloc _ _)) b3)
      clear b3 B2 O2
      obtain ⟨t0, t1⟩ := T3.out
      go_wp2_with fail
      clear t0 t1
      have T4 := hide (T3.out.below (below_alloc w3 (.cells #[.int .i64 2, .slice none 0 0] 31)))
      have V4 := hide (Two.new w3 (.int .i64 2) (.slice none 0 0) 31)
      have B4 := hide (below_next B3.out (below_alloc w3 (.cells #[.int .i64 2, .slice none 0 0] 31)))
      generalize w3.alloc (.cells #[.int .i64 2, .slice none 0 0] 31) = W at *
      have f1 : ∀ u : InW (fun x => Below W.heap.size W x), u.val.cell? ⟨w2.heap.size, 0, none⟩ = some (.int .i64 2) := fun u => (T4.out.below u.ok).1
      have f2 : ∀ u : InW (fun x => Below W.heap.size W x), u.val.cell? ⟨w3.heap.size, 0, none⟩ = some (.int .i64 2) := fun u => (V4.out.below u.ok).1
      have hne : Nonempty (InW (fun x => Below W.heap.size W x)) := ⟨⟨W, Below.refl _ _⟩⟩
      have hfd : ∀ w : World, (Instr.field 27 (.agg #[.int .i64 2, .slice none 0 0]) 0).run Try.prog w = .ok (.int .i64 2) w := fun _ => by kernel_rfl
      refine wp_region_inv (Inv := fun x => Below W.heap.size W x) (by kernel_rfl) (by kernel_rfl) (Below.refl _ _).drew ?_
      repeat (first | go_big_quiet_step ((go_at_call 8; exact calls_inv ((specCutChunks_no _ _ ds _ (by omega) (by omega)).mono (fun e w' ⟨he, hb⟩ => ⟨he, below_next (InW.ok _) hb⟩)))) | quiet_step (fail))
      refine wpQuiet_nil ?_
      intro _ hw'
      obtain ⟨u, hw''⟩ := hw'
      subst hw''
      have B5 := hide (below_next B4.out u.ok)
      go_wp2_with fail
      go_ret
      exact ⟨rfl, B5.out⟩


set_option maxRecDepth 100000 in
theorem lifted (os : Os) (started : os.Started) (H : Type) (enc : TypeId × Value → H) :
    ReturnsInHanded {} Try.checked os 3 .any (Rows.fnDigestsSpec.pre6 enc Try.prog Try.f3 Rows.fnDigestsRow.domain false) (Rows.fnDigestsSpec.post enc Try.prog Try.f3 false true false false) := by
  refine returnsInHanded_of_change (C := Try.checked) own started (by kernel_rfl) Try.func3
    (ChangeSpec.witness6 (enc := enc) (C := Try.checked) false ⟨#[], #[.slice none 0 0], []⟩ 8 (by kernel_rfl) (by kernel_rfl) (by kernel_rfl) (by kernel_rfl)) ?_
  intro W base args ds gs before hval0 hW hcnd _
  have hval : ∀ (j : Nat) t v, Try.f3.params[j]? = some t → args[j]? = some v → Value.okWide Try.prog W .any base t v := hval0
  have hW' := hW
  obtain ⟨p, q, hA0, hV, rfl, hfz, hnd⟩ := hW
  have hA : DataW.TrodAll enc Try.prog W 0 (fun _ => true) true Try.f3.params.toList args.toList ds p := hA0
  rw [Try.params3] at hA hval
  obtain ⟨v0, vs0, d0, ds0, p0, q0, hargs, rfl, rfl, h0, r0⟩ := trodAll_cons hA
  obtain ⟨rfl, rfl, rfl⟩ := trodAll_nil r0
  obtain rfl : args = #[v0] := by cases args; simp_all
  obtain ⟨rfl, rfl⟩ := trodVars_none hV
  obtain ⟨a0, len0, cap0, rfl⟩ := okWide_slice Try.underlying22 (hval 0 22 v0 rfl rfl)
  have k0 := h0
  have lt0 : ∀ x ∈ p0, x.block < W.heap.size := by obtain ⟨m, hm⟩ := k0; exact DataW.trod_lt m _ _ _ hm
  obtain ⟨zs, hlen, hread, hu, hmax⟩ : ∃ zs : List Int, zs.length = len0 ∧ Reads .u8 W a0 zs ∧ U8 zs ∧ zs.length ≤ maxLen := by
    obtain ⟨fuel, hf⟩ := h0
    rcases open_ints Try.underlying22 Try.underlying5 (by kernel_rfl) hf with ⟨hcs, _⟩ | ⟨x, l, c, zs, hcs, _, hl, hm, hz, _, hcell, hwz⟩
    · simp [Value.cells] at hcs
      obtain ⟨rfl, rfl, rfl⟩ := hcs
      exact ⟨[], rfl, fun h => absurd rfl h, fun z hz => by simp at hz, Nat.zero_le _⟩
    · simp [Value.cells] at hcs
      obtain ⟨rfl, rfl, rfl⟩ := hcs
      exact reads_of_row (by simpa using hz) hl hm hcell hwz
  subst hlen
  clear hA0 hval0
  refine (walk a0 cap0 zs W hread hu hmax).mono fun e W' ⟨he, bel⟩ => ?_
  subst he
  exact ⟨_, rfl, _, _, _, [], _, [], hW', trodAll_mk1 (shut_bool Try.underlying4 _), (trodAll_cons_mk (Below.trod laidOut (by kernel_rfl) (of_decide_eq_true (by kernel_rfl)) k0 bel lt0) trodAll_mk0), rfl, bel.frame _, fun h => by cases h⟩

theorem over : Rows.fnDigestsRow.holds Try.pinned (OpenSpec.ofChange Rows.fnDigestsSpec) :=
  OpenClaim.holds_of_wide 3 Try.f3 rfl rfl rfl rfl rfl rfl rfl ⟨rfl, rfl, rfl, rfl, rfl⟩ rfl rfl rfl rfl rfl (by kernel_rfl) Try.func3 (by kernel_rfl)
    (of_decide_eq_true (by kernel_rfl)) (by unfold Func.isWrapper; first | (rw [if_pos (by decide +kernel)]; kernel_rfl) | (rw [if_neg (by decide +kernel)]; exact ⟨rfl, rfl⟩))
    (fun os started H enc _ => lifted os started H enc)

end Go.Proofs.Ytmnfpmkiombbdaa.fnDigests
namespace Go.Proofs.Ytmnfpmkiombbdaa
theorem fnDigests_holds : Rows.FnDigestsSaid := fnDigests.over
#print axioms fnDigests_holds
end Go.Proofs.Ytmnfpmkiombbdaa
